/- The code of Install by the program. -/
import Derived.Test.YtfpafjdakipccaaMi
import Derived.Test.YtfpafjdakipccaaFi
namespace Go.Proofs.Ytfpafjdakipccaa
open Go.RowKit
theorem expired_any (o s g : Int) (a a' : Option Addr) (n c m c' : Nat) (w : World) (b : Bool) (hb : (g == 60) = b) :
    Calls Try.prog 77 #[.agg #[.int .i64 o, .int .i64 s, .int .i64 g, .slice a n c, .slice a' m c']] w fun e w' => e = .returned (.bool b) /\ Below w.heap.size w w' := by
  go_enter Try.func77, Try.ntmps77
  go_wp2
  go_ret
  exact ⟨rfl, by go_grown⟩
def Shok (F : Int -> Option Ls) : Prop := ∀ x l, F x = some l -> l.o = x /\ l.ok = true
theorem shok_dfind {D : List Ls} (h : dokB D = true) : Shok (dfind D) := fun _ _ hl => flo_len h hl
theorem shok_put {F : Int -> Option Ls} {l : Ls} (h : Shok F) (hl : l.ok = true) : Shok (putF F l) := fun x l' h' => by
  unfold putF at h'
  split at h'
  · rename_i e
    obtain rfl := Option.some.inj h'
    exact ⟨e.symm, hl⟩
  · exact h x l' h'
set_option linter.unusedVariables false in
set_option maxRecDepth 100000 in
set_option maxHeartbeats 8000000 in
theorem code_1 (F : Int -> Option Ls) (l : Ls) (m B lo2 hi2 : Nat) (u x : Value) (w : World) (hs : Shelf w m B F) (hk : Shok F) (hl : l.ok = true) (hr2 : LRow w lo2 hi2 u x l.K.length l.T.length (flat2 l.K) (flat l.T)) (hh2 : hi2 <= w.heap.size) (hf : F l.o = none) (hg : l.g = 60) :
    Calls Try.prog 78 #[.map (some m), .agg #[.int .i64 l.o, .int .i64 l.s, .int .i64 l.g, u, x]] w fun e w' => e = .returned (.int .i64 (codeF (F l.o) l)) /\ Below w.heap.size w w' := by
  have HC : Hid (codeF (F l.o) l = 1) := Lib.hid (by rw [hf]; exact if_pos hg)
  have HG : Hid ((l.g == 60) = true) := Lib.hid (by simp [hg])
  clear hg
  have HZV : Hid (∀ w : World, (zeroValue 33).run Try.prog w = .ok (.agg #[.int .i64 0, .int .i64 0, .int .i64 0, .slice none 0 0, .slice none 0 0]) w) := Lib.hid fun w => by simp [Try.zeroValue33]
  have L0 := Lib.hid hr2
  obtain ⟨u1, e1, u2, e2, q1, q2⟩ := hr2.slice
  subst q1 q2
  have sl := hs.lt
  obtain ⟨sB, ff, sm, sf⟩ := hs
  have SM := Lib.hid sm
  have HFX : Hid (ff l.o = none) := by
    rcases sf l.o with ⟨_, f2⟩ | ⟨_, _, _, _, _, f1, _⟩
    · exact f2
    · rw [hf] at f1; cases f1
  clear sf sm sB hr2 hk hl hf
  go_enter Try.func78, Try.ntmps78
  go_wp2_with (at_lookup; refine wpList_lookup_I _ rfl _ _ 82 true rfl 3 33 Try.underlying82 Try.underlying3 (.agg #[.int .i64 0, .int .i64 0, .int .i64 0, .slice none 0 0, .slice none 0 0]) (HZV.out _) m ff rfl (SM.out.move (Below.heap_alloc _ _ _ sl)) l.o rfl (.tuple #[.agg #[.int .i64 0, .int .i64 0, .int .i64 0, .slice none 0 0, .slice none 0 0], .bool false]) (by rw [HFX.out]; rfl) ?_)
  go_at_call 77
  refine (expired_any _ _ _ _ _ _ _ _ _ _ true HG.out).mono ?_
  rintro e v1 ⟨rfl, hb1⟩
  have sz1 : w.heap.size + 2 <= v1.heap.size := by have hh := hb1.size; simp at hh; omega
  have st1 : Below w.heap.size w v1 := Below.trans (by go_grown) (hb1.mono (by simp <;> omega))
  have c1_0 : v1.cell? ⟨w.heap.size, 0, none⟩ = some (.int .i64 l.o) := by rw [(bcell hb1).1 _ _ (by simp <;> omega), old_box (by simp <;> omega)]; first | (rw [new_at (by simp)]; rfl) | simp
  have c1_1 : v1.cell? ⟨w.heap.size, 1, none⟩ = some (.int .i64 l.s) := by rw [(bcell hb1).1 _ _ (by simp <;> omega), old_box (by simp <;> omega)]; first | (rw [new_at (by simp)]; rfl) | simp
  have c1_2 : v1.cell? ⟨w.heap.size, 2, none⟩ = some (.int .i64 l.g) := by rw [(bcell hb1).1 _ _ (by simp <;> omega), old_box (by simp <;> omega)]; first | (rw [new_at (by simp)]; rfl) | simp
  have c1_3 : v1.cell? ⟨w.heap.size, 3, none⟩ = some (.slice u1 l.K.length e1) := by rw [(bcell hb1).1 _ _ (by simp <;> omega), old_box (by simp <;> omega)]; first | (rw [new_at (by simp)]; rfl) | simp
  have c1_4 : v1.cell? ⟨w.heap.size, 4, none⟩ = some (.slice u2 l.T.length e2) := by rw [(bcell hb1).1 _ _ (by simp <;> omega), old_box (by simp <;> omega)]; first | (rw [new_at (by simp)]; rfl) | simp
  have c1_5 : v1.cell? ⟨w.heap.size + 1, 0, none⟩ = some (.int .i64 0) := by rw [(bcell hb1).1 _ _ (by simp)]; first | (rw [new_at (by simp)]; rfl) | simp
  have c1_6 : v1.cell? ⟨w.heap.size + 1, 1, none⟩ = some (.int .i64 0) := by rw [(bcell hb1).1 _ _ (by simp)]; first | (rw [new_at (by simp)]; rfl) | simp
  have c1_7 : v1.cell? ⟨w.heap.size + 1, 2, none⟩ = some (.int .i64 0) := by rw [(bcell hb1).1 _ _ (by simp)]; first | (rw [new_at (by simp)]; rfl) | simp
  have c1_8 : v1.cell? ⟨w.heap.size + 1, 3, none⟩ = some (.slice none 0 0) := by rw [(bcell hb1).1 _ _ (by simp)]; first | (rw [new_at (by simp)]; rfl) | simp
  have c1_9 : v1.cell? ⟨w.heap.size + 1, 4, none⟩ = some (.slice none 0 0) := by rw [(bcell hb1).1 _ _ (by simp)]; first | (rw [new_at (by simp)]; rfl) | simp
  have B1 : Hid (Below w.heap.size w v1) := st1
  have R1_0 : Hid (LRow v1 (lo2) (hi2) (.slice u1 l.K.length e1) (.slice u2 l.T.length e2) l.K.length l.T.length (flat2 l.K) (flat l.T)) := L0.out.below st1 (by omega)
  have d1_0 : w.heap.size < v1.heap.size := by omega
  have e1_0 : w.heap.size ≠ v1.heap.size := by omega
  have d1_1 : w.heap.size + 1 < v1.heap.size := by omega
  have e1_1 : w.heap.size + 1 ≠ v1.heap.size := by omega
  clear st1 L0 hb1
  go_wp2_with fail
  go_ret
  exact ⟨by rw [HC.out]; rfl, B1.out⟩
set_option linter.unusedVariables false in
set_option maxRecDepth 100000 in
set_option maxHeartbeats 8000000 in
theorem code_0 (F : Int -> Option Ls) (l : Ls) (m B lo2 hi2 : Nat) (u x : Value) (w : World) (hs : Shelf w m B F) (hk : Shok F) (hl : l.ok = true) (hr2 : LRow w lo2 hi2 u x l.K.length l.T.length (flat2 l.K) (flat l.T)) (hh2 : hi2 <= w.heap.size) (hf : F l.o = none) (hg : ¬ l.g = 60) :
    Calls Try.prog 78 #[.map (some m), .agg #[.int .i64 l.o, .int .i64 l.s, .int .i64 l.g, u, x]] w fun e w' => e = .returned (.int .i64 (codeF (F l.o) l)) /\ Below w.heap.size w w' := by
  have HC : Hid (codeF (F l.o) l = 0) := Lib.hid (by rw [hf]; exact if_neg hg)
  have HG : Hid ((l.g == 60) = false) := Lib.hid (by simp [hg])
  clear hg
  have HZV : Hid (∀ w : World, (zeroValue 33).run Try.prog w = .ok (.agg #[.int .i64 0, .int .i64 0, .int .i64 0, .slice none 0 0, .slice none 0 0]) w) := Lib.hid fun w => by simp [Try.zeroValue33]
  have L0 := Lib.hid hr2
  obtain ⟨u1, e1, u2, e2, q1, q2⟩ := hr2.slice
  subst q1 q2
  have sl := hs.lt
  obtain ⟨sB, ff, sm, sf⟩ := hs
  have SM := Lib.hid sm
  have HFX : Hid (ff l.o = none) := by
    rcases sf l.o with ⟨_, f2⟩ | ⟨_, _, _, _, _, f1, _⟩
    · exact f2
    · rw [hf] at f1; cases f1
  clear sf sm sB hr2 hk hl hf
  go_enter Try.func78, Try.ntmps78
  go_wp2_with (at_lookup; refine wpList_lookup_I _ rfl _ _ 82 true rfl 3 33 Try.underlying82 Try.underlying3 (.agg #[.int .i64 0, .int .i64 0, .int .i64 0, .slice none 0 0, .slice none 0 0]) (HZV.out _) m ff rfl (SM.out.move (Below.heap_alloc _ _ _ sl)) l.o rfl (.tuple #[.agg #[.int .i64 0, .int .i64 0, .int .i64 0, .slice none 0 0, .slice none 0 0], .bool false]) (by rw [HFX.out]; rfl) ?_)
  go_at_call 77
  refine (expired_any _ _ _ _ _ _ _ _ _ _ false HG.out).mono ?_
  rintro e v1 ⟨rfl, hb1⟩
  have sz1 : w.heap.size + 2 <= v1.heap.size := by have hh := hb1.size; simp at hh; omega
  have st1 : Below w.heap.size w v1 := Below.trans (by go_grown) (hb1.mono (by simp <;> omega))
  have c1_0 : v1.cell? ⟨w.heap.size, 0, none⟩ = some (.int .i64 l.o) := by rw [(bcell hb1).1 _ _ (by simp <;> omega), old_box (by simp <;> omega)]; first | (rw [new_at (by simp)]; rfl) | simp
  have c1_1 : v1.cell? ⟨w.heap.size, 1, none⟩ = some (.int .i64 l.s) := by rw [(bcell hb1).1 _ _ (by simp <;> omega), old_box (by simp <;> omega)]; first | (rw [new_at (by simp)]; rfl) | simp
  have c1_2 : v1.cell? ⟨w.heap.size, 2, none⟩ = some (.int .i64 l.g) := by rw [(bcell hb1).1 _ _ (by simp <;> omega), old_box (by simp <;> omega)]; first | (rw [new_at (by simp)]; rfl) | simp
  have c1_3 : v1.cell? ⟨w.heap.size, 3, none⟩ = some (.slice u1 l.K.length e1) := by rw [(bcell hb1).1 _ _ (by simp <;> omega), old_box (by simp <;> omega)]; first | (rw [new_at (by simp)]; rfl) | simp
  have c1_4 : v1.cell? ⟨w.heap.size, 4, none⟩ = some (.slice u2 l.T.length e2) := by rw [(bcell hb1).1 _ _ (by simp <;> omega), old_box (by simp <;> omega)]; first | (rw [new_at (by simp)]; rfl) | simp
  have c1_5 : v1.cell? ⟨w.heap.size + 1, 0, none⟩ = some (.int .i64 0) := by rw [(bcell hb1).1 _ _ (by simp)]; first | (rw [new_at (by simp)]; rfl) | simp
  have c1_6 : v1.cell? ⟨w.heap.size + 1, 1, none⟩ = some (.int .i64 0) := by rw [(bcell hb1).1 _ _ (by simp)]; first | (rw [new_at (by simp)]; rfl) | simp
  have c1_7 : v1.cell? ⟨w.heap.size + 1, 2, none⟩ = some (.int .i64 0) := by rw [(bcell hb1).1 _ _ (by simp)]; first | (rw [new_at (by simp)]; rfl) | simp
  have c1_8 : v1.cell? ⟨w.heap.size + 1, 3, none⟩ = some (.slice none 0 0) := by rw [(bcell hb1).1 _ _ (by simp)]; first | (rw [new_at (by simp)]; rfl) | simp
  have c1_9 : v1.cell? ⟨w.heap.size + 1, 4, none⟩ = some (.slice none 0 0) := by rw [(bcell hb1).1 _ _ (by simp)]; first | (rw [new_at (by simp)]; rfl) | simp
  have B1 : Hid (Below w.heap.size w v1) := st1
  have R1_0 : Hid (LRow v1 (lo2) (hi2) (.slice u1 l.K.length e1) (.slice u2 l.T.length e2) l.K.length l.T.length (flat2 l.K) (flat l.T)) := L0.out.below st1 (by omega)
  have d1_0 : w.heap.size < v1.heap.size := by omega
  have e1_0 : w.heap.size ≠ v1.heap.size := by omega
  have d1_1 : w.heap.size + 1 < v1.heap.size := by omega
  have e1_1 : w.heap.size + 1 ≠ v1.heap.size := by omega
  clear st1 L0 hb1
  go_wp2_with fail
  go_ret
  exact ⟨by rw [HC.out]; rfl, B1.out⟩
set_option linter.unusedVariables false in
set_option maxRecDepth 100000 in
set_option maxHeartbeats 8000000 in
theorem code_2 (F : Int -> Option Ls) (l : Ls) (m B lo2 hi2 : Nat) (u x : Value) (w : World) (hs : Shelf w m B F) (hk : Shok F) (hl : l.ok = true) (hr2 : LRow w lo2 hi2 u x l.K.length l.T.length (flat2 l.K) (flat l.T)) (hh2 : hi2 <= w.heap.size) (old : Ls) (hf : F l.o = some old) (hz : newL l old = 1) :
    Calls Try.prog 78 #[.map (some m), .agg #[.int .i64 l.o, .int .i64 l.s, .int .i64 l.g, u, x]] w fun e w' => e = .returned (.int .i64 (codeF (F l.o) l)) /\ Below w.heap.size w w' := by
  have HC : Hid (codeF (F l.o) l = 0) := Lib.hid (by rw [hf]; show (if newL l old = 1 then _ else if newL l old = 0 then _ else _) = _; rw [hz]; first | done | decide)
  have HW : Hid (newN l.o l.s l.g old.o old.s old.g l.K l.T old.K old.T = 1) := Lib.hid hz
  clear hz
  have HZV : Hid (∀ w : World, (zeroValue 33).run Try.prog w = .ok (.agg #[.int .i64 0, .int .i64 0, .int .i64 0, .slice none 0 0, .slice none 0 0]) w) := Lib.hid fun w => by simp [Try.zeroValue33]
  have L0 := Lib.hid hr2
  obtain ⟨u1, e1, u2, e2, q1, q2⟩ := hr2.slice
  subst q1 q2
  have sl := hs.lt
  obtain ⟨sB, ff, sm, sf⟩ := hs
  have SM := Lib.hid sm
  obtain ⟨l', u', y', H0, H1, f1, f2, r, hB⟩ : ∃ l' u' y' H0 H1, F l.o = some l' /\ ff l.o = some (lsv l' u' y') /\ LRow w H0 H1 u' y' l'.K.length l'.T.length (flat2 l'.K) (flat l'.T) /\ H1 <= B := by
    rcases sf l.o with ⟨f1, _⟩ | h
    · rw [hf] at f1; cases f1
    · exact h
  obtain rfl : old = l' := by rw [hf] at f1; exact Option.some.inj f1
  obtain ⟨x1, y1, x2, y2, q1, q2⟩ := r.slice
  subst q1 q2
  have R1 := Lib.hid r
  have HFX := Lib.hid f2
  have hB2 : H1 <= w.heap.size := by omega
  clear f1 f2 r
  clear sf sm sB hr2 hk hl hf
  go_enter Try.func78, Try.ntmps78
  go_wp2_with (at_lookup; refine wpList_lookup_I _ rfl _ _ 82 true rfl 3 33 Try.underlying82 Try.underlying3 (.agg #[.int .i64 0, .int .i64 0, .int .i64 0, .slice none 0 0, .slice none 0 0]) (HZV.out _) m ff rfl (SM.out.move (Below.heap_alloc _ _ _ sl)) l.o rfl (.tuple #[.agg #[.int .i64 old.o, .int .i64 old.s, .int .i64 old.g, .slice x1 old.K.length y1, .slice x2 old.T.length y2], .bool true]) (by rw [HFX.out]; rfl) ?_)
  go_at_call 102
  refine (inew_any l.o l.s l.g old.o old.s old.g lo2 hi2 l.K.length l.T.length H0 H1 old.K.length old.T.length _ _ _ _ l.K l.T old.K old.T _ rfl rfl rfl rfl (L0.out.below (B := w.heap.size) (by go_grown) (by omega)) (R1.out.below (B := w.heap.size) (by go_grown) (by omega)) (by first | omega | (simp; omega) | simp) (by first | omega | (simp; omega) | simp)).mono ?_
  rw [HW.out]
  rintro e v1 ⟨rfl, hb1⟩
  have sz1 : w.heap.size + 2 <= v1.heap.size := by have hh := hb1.size; simp at hh; omega
  have st1 : Below w.heap.size w v1 := Below.trans (by go_grown) (hb1.mono (by simp <;> omega))
  have c1_0 : v1.cell? ⟨w.heap.size, 0, none⟩ = some (.int .i64 l.o) := by rw [(bcell hb1).1 _ _ (by simp <;> omega), old_box (by simp <;> omega)]; first | (rw [new_at (by simp)]; rfl) | simp
  have c1_1 : v1.cell? ⟨w.heap.size, 1, none⟩ = some (.int .i64 l.s) := by rw [(bcell hb1).1 _ _ (by simp <;> omega), old_box (by simp <;> omega)]; first | (rw [new_at (by simp)]; rfl) | simp
  have c1_2 : v1.cell? ⟨w.heap.size, 2, none⟩ = some (.int .i64 l.g) := by rw [(bcell hb1).1 _ _ (by simp <;> omega), old_box (by simp <;> omega)]; first | (rw [new_at (by simp)]; rfl) | simp
  have c1_3 : v1.cell? ⟨w.heap.size, 3, none⟩ = some (.slice u1 l.K.length e1) := by rw [(bcell hb1).1 _ _ (by simp <;> omega), old_box (by simp <;> omega)]; first | (rw [new_at (by simp)]; rfl) | simp
  have c1_4 : v1.cell? ⟨w.heap.size, 4, none⟩ = some (.slice u2 l.T.length e2) := by rw [(bcell hb1).1 _ _ (by simp <;> omega), old_box (by simp <;> omega)]; first | (rw [new_at (by simp)]; rfl) | simp
  have c1_5 : v1.cell? ⟨w.heap.size + 1, 0, none⟩ = some (.int .i64 old.o) := by rw [(bcell hb1).1 _ _ (by simp)]; first | (rw [new_at (by simp)]; rfl) | simp
  have c1_6 : v1.cell? ⟨w.heap.size + 1, 1, none⟩ = some (.int .i64 old.s) := by rw [(bcell hb1).1 _ _ (by simp)]; first | (rw [new_at (by simp)]; rfl) | simp
  have c1_7 : v1.cell? ⟨w.heap.size + 1, 2, none⟩ = some (.int .i64 old.g) := by rw [(bcell hb1).1 _ _ (by simp)]; first | (rw [new_at (by simp)]; rfl) | simp
  have c1_8 : v1.cell? ⟨w.heap.size + 1, 3, none⟩ = some (.slice x1 old.K.length y1) := by rw [(bcell hb1).1 _ _ (by simp)]; first | (rw [new_at (by simp)]; rfl) | simp
  have c1_9 : v1.cell? ⟨w.heap.size + 1, 4, none⟩ = some (.slice x2 old.T.length y2) := by rw [(bcell hb1).1 _ _ (by simp)]; first | (rw [new_at (by simp)]; rfl) | simp
  have B1 : Hid (Below w.heap.size w v1) := st1
  have R1_0 : Hid (LRow v1 (lo2) (hi2) (.slice u1 l.K.length e1) (.slice u2 l.T.length e2) l.K.length l.T.length (flat2 l.K) (flat l.T)) := L0.out.below st1 (by omega)
  have R1_1 : Hid (LRow v1 (H0) (H1) (.slice x1 old.K.length y1) (.slice x2 old.T.length y2) old.K.length old.T.length (flat2 old.K) (flat old.T)) := R1.out.below st1 (by omega)
  have d1_0 : w.heap.size < v1.heap.size := by omega
  have e1_0 : w.heap.size ≠ v1.heap.size := by omega
  have d1_1 : w.heap.size + 1 < v1.heap.size := by omega
  have e1_1 : w.heap.size + 1 ≠ v1.heap.size := by omega
  clear st1 L0 R1 hb1
  go_wp2_with fail
  go_ret
  exact ⟨by rw [HC.out]; rfl, B1.out⟩
set_option linter.unusedVariables false in
set_option maxRecDepth 100000 in
set_option maxHeartbeats 8000000 in
theorem code_3 (F : Int -> Option Ls) (l : Ls) (m B lo2 hi2 : Nat) (u x : Value) (w : World) (hs : Shelf w m B F) (hk : Shok F) (hl : l.ok = true) (hr2 : LRow w lo2 hi2 u x l.K.length l.T.length (flat2 l.K) (flat l.T)) (hh2 : hi2 <= w.heap.size) (old : Ls) (hf : F l.o = some old) (hz : newL l old = 0) :
    Calls Try.prog 78 #[.map (some m), .agg #[.int .i64 l.o, .int .i64 l.s, .int .i64 l.g, u, x]] w fun e w' => e = .returned (.int .i64 (codeF (F l.o) l)) /\ Below w.heap.size w w' := by
  have HC : Hid (codeF (F l.o) l = 1) := Lib.hid (by rw [hf]; show (if newL l old = 1 then _ else if newL l old = 0 then _ else _) = _; rw [hz]; first | done | decide)
  have HW : Hid (newN l.o l.s l.g old.o old.s old.g l.K l.T old.K old.T = 0) := Lib.hid hz
  clear hz
  have HZV : Hid (∀ w : World, (zeroValue 33).run Try.prog w = .ok (.agg #[.int .i64 0, .int .i64 0, .int .i64 0, .slice none 0 0, .slice none 0 0]) w) := Lib.hid fun w => by simp [Try.zeroValue33]
  have L0 := Lib.hid hr2
  obtain ⟨u1, e1, u2, e2, q1, q2⟩ := hr2.slice
  subst q1 q2
  have sl := hs.lt
  obtain ⟨sB, ff, sm, sf⟩ := hs
  have SM := Lib.hid sm
  obtain ⟨l', u', y', H0, H1, f1, f2, r, hB⟩ : ∃ l' u' y' H0 H1, F l.o = some l' /\ ff l.o = some (lsv l' u' y') /\ LRow w H0 H1 u' y' l'.K.length l'.T.length (flat2 l'.K) (flat l'.T) /\ H1 <= B := by
    rcases sf l.o with ⟨f1, _⟩ | h
    · rw [hf] at f1; cases f1
    · exact h
  obtain rfl : old = l' := by rw [hf] at f1; exact Option.some.inj f1
  obtain ⟨x1, y1, x2, y2, q1, q2⟩ := r.slice
  subst q1 q2
  have R1 := Lib.hid r
  have HFX := Lib.hid f2
  have hB2 : H1 <= w.heap.size := by omega
  clear f1 f2 r
  clear sf sm sB hr2 hk hl hf
  go_enter Try.func78, Try.ntmps78
  go_wp2_with (at_lookup; refine wpList_lookup_I _ rfl _ _ 82 true rfl 3 33 Try.underlying82 Try.underlying3 (.agg #[.int .i64 0, .int .i64 0, .int .i64 0, .slice none 0 0, .slice none 0 0]) (HZV.out _) m ff rfl (SM.out.move (Below.heap_alloc _ _ _ sl)) l.o rfl (.tuple #[.agg #[.int .i64 old.o, .int .i64 old.s, .int .i64 old.g, .slice x1 old.K.length y1, .slice x2 old.T.length y2], .bool true]) (by rw [HFX.out]; rfl) ?_)
  go_at_call 102
  refine (inew_any l.o l.s l.g old.o old.s old.g lo2 hi2 l.K.length l.T.length H0 H1 old.K.length old.T.length _ _ _ _ l.K l.T old.K old.T _ rfl rfl rfl rfl (L0.out.below (B := w.heap.size) (by go_grown) (by omega)) (R1.out.below (B := w.heap.size) (by go_grown) (by omega)) (by first | omega | (simp; omega) | simp) (by first | omega | (simp; omega) | simp)).mono ?_
  rw [HW.out]
  rintro e v1 ⟨rfl, hb1⟩
  have sz1 : w.heap.size + 2 <= v1.heap.size := by have hh := hb1.size; simp at hh; omega
  have st1 : Below w.heap.size w v1 := Below.trans (by go_grown) (hb1.mono (by simp <;> omega))
  have c1_0 : v1.cell? ⟨w.heap.size, 0, none⟩ = some (.int .i64 l.o) := by rw [(bcell hb1).1 _ _ (by simp <;> omega), old_box (by simp <;> omega)]; first | (rw [new_at (by simp)]; rfl) | simp
  have c1_1 : v1.cell? ⟨w.heap.size, 1, none⟩ = some (.int .i64 l.s) := by rw [(bcell hb1).1 _ _ (by simp <;> omega), old_box (by simp <;> omega)]; first | (rw [new_at (by simp)]; rfl) | simp
  have c1_2 : v1.cell? ⟨w.heap.size, 2, none⟩ = some (.int .i64 l.g) := by rw [(bcell hb1).1 _ _ (by simp <;> omega), old_box (by simp <;> omega)]; first | (rw [new_at (by simp)]; rfl) | simp
  have c1_3 : v1.cell? ⟨w.heap.size, 3, none⟩ = some (.slice u1 l.K.length e1) := by rw [(bcell hb1).1 _ _ (by simp <;> omega), old_box (by simp <;> omega)]; first | (rw [new_at (by simp)]; rfl) | simp
  have c1_4 : v1.cell? ⟨w.heap.size, 4, none⟩ = some (.slice u2 l.T.length e2) := by rw [(bcell hb1).1 _ _ (by simp <;> omega), old_box (by simp <;> omega)]; first | (rw [new_at (by simp)]; rfl) | simp
  have c1_5 : v1.cell? ⟨w.heap.size + 1, 0, none⟩ = some (.int .i64 old.o) := by rw [(bcell hb1).1 _ _ (by simp)]; first | (rw [new_at (by simp)]; rfl) | simp
  have c1_6 : v1.cell? ⟨w.heap.size + 1, 1, none⟩ = some (.int .i64 old.s) := by rw [(bcell hb1).1 _ _ (by simp)]; first | (rw [new_at (by simp)]; rfl) | simp
  have c1_7 : v1.cell? ⟨w.heap.size + 1, 2, none⟩ = some (.int .i64 old.g) := by rw [(bcell hb1).1 _ _ (by simp)]; first | (rw [new_at (by simp)]; rfl) | simp
  have c1_8 : v1.cell? ⟨w.heap.size + 1, 3, none⟩ = some (.slice x1 old.K.length y1) := by rw [(bcell hb1).1 _ _ (by simp)]; first | (rw [new_at (by simp)]; rfl) | simp
  have c1_9 : v1.cell? ⟨w.heap.size + 1, 4, none⟩ = some (.slice x2 old.T.length y2) := by rw [(bcell hb1).1 _ _ (by simp)]; first | (rw [new_at (by simp)]; rfl) | simp
  have B1 : Hid (Below w.heap.size w v1) := st1
  have R1_0 : Hid (LRow v1 (lo2) (hi2) (.slice u1 l.K.length e1) (.slice u2 l.T.length e2) l.K.length l.T.length (flat2 l.K) (flat l.T)) := L0.out.below st1 (by omega)
  have R1_1 : Hid (LRow v1 (H0) (H1) (.slice x1 old.K.length y1) (.slice x2 old.T.length y2) old.K.length old.T.length (flat2 old.K) (flat old.T)) := R1.out.below st1 (by omega)
  have d1_0 : w.heap.size < v1.heap.size := by omega
  have e1_0 : w.heap.size ≠ v1.heap.size := by omega
  have d1_1 : w.heap.size + 1 < v1.heap.size := by omega
  have e1_1 : w.heap.size + 1 ≠ v1.heap.size := by omega
  clear st1 L0 R1 hb1
  go_wp2_with fail
  go_ret
  exact ⟨by rw [HC.out]; rfl, B1.out⟩
set_option linter.unusedVariables false in
set_option maxRecDepth 100000 in
set_option maxHeartbeats 8000000 in
theorem code_4 (F : Int -> Option Ls) (l : Ls) (m B lo2 hi2 : Nat) (u x : Value) (w : World) (hs : Shelf w m B F) (hk : Shok F) (hl : l.ok = true) (hr2 : LRow w lo2 hi2 u x l.K.length l.T.length (flat2 l.K) (flat l.T)) (hh2 : hi2 <= w.heap.size) (old : Ls) (hf : F l.o = some old) (hz : newL l old = (-1)) :
    Calls Try.prog 78 #[.map (some m), .agg #[.int .i64 l.o, .int .i64 l.s, .int .i64 l.g, u, x]] w fun e w' => e = .returned (.int .i64 (codeF (F l.o) l)) /\ Below w.heap.size w w' := by
  have HC : Hid (codeF (F l.o) l = 2) := Lib.hid (by rw [hf]; show (if newL l old = 1 then _ else if newL l old = 0 then _ else _) = _; rw [hz]; first | done | decide)
  have HW : Hid (newN l.o l.s l.g old.o old.s old.g l.K l.T old.K old.T = (-1)) := Lib.hid hz
  clear hz
  have HZV : Hid (∀ w : World, (zeroValue 33).run Try.prog w = .ok (.agg #[.int .i64 0, .int .i64 0, .int .i64 0, .slice none 0 0, .slice none 0 0]) w) := Lib.hid fun w => by simp [Try.zeroValue33]
  have L0 := Lib.hid hr2
  obtain ⟨u1, e1, u2, e2, q1, q2⟩ := hr2.slice
  subst q1 q2
  have sl := hs.lt
  obtain ⟨sB, ff, sm, sf⟩ := hs
  have SM := Lib.hid sm
  obtain ⟨l', u', y', H0, H1, f1, f2, r, hB⟩ : ∃ l' u' y' H0 H1, F l.o = some l' /\ ff l.o = some (lsv l' u' y') /\ LRow w H0 H1 u' y' l'.K.length l'.T.length (flat2 l'.K) (flat l'.T) /\ H1 <= B := by
    rcases sf l.o with ⟨f1, _⟩ | h
    · rw [hf] at f1; cases f1
    · exact h
  obtain rfl : old = l' := by rw [hf] at f1; exact Option.some.inj f1
  obtain ⟨x1, y1, x2, y2, q1, q2⟩ := r.slice
  subst q1 q2
  have R1 := Lib.hid r
  have HFX := Lib.hid f2
  have hB2 : H1 <= w.heap.size := by omega
  clear f1 f2 r
  clear sf sm sB hr2 hk hl hf
  go_enter Try.func78, Try.ntmps78
  go_wp2_with (at_lookup; refine wpList_lookup_I _ rfl _ _ 82 true rfl 3 33 Try.underlying82 Try.underlying3 (.agg #[.int .i64 0, .int .i64 0, .int .i64 0, .slice none 0 0, .slice none 0 0]) (HZV.out _) m ff rfl (SM.out.move (Below.heap_alloc _ _ _ sl)) l.o rfl (.tuple #[.agg #[.int .i64 old.o, .int .i64 old.s, .int .i64 old.g, .slice x1 old.K.length y1, .slice x2 old.T.length y2], .bool true]) (by rw [HFX.out]; rfl) ?_)
  go_at_call 102
  refine (inew_any l.o l.s l.g old.o old.s old.g lo2 hi2 l.K.length l.T.length H0 H1 old.K.length old.T.length _ _ _ _ l.K l.T old.K old.T _ rfl rfl rfl rfl (L0.out.below (B := w.heap.size) (by go_grown) (by omega)) (R1.out.below (B := w.heap.size) (by go_grown) (by omega)) (by first | omega | (simp; omega) | simp) (by first | omega | (simp; omega) | simp)).mono ?_
  rw [HW.out]
  rintro e v1 ⟨rfl, hb1⟩
  have sz1 : w.heap.size + 2 <= v1.heap.size := by have hh := hb1.size; simp at hh; omega
  have st1 : Below w.heap.size w v1 := Below.trans (by go_grown) (hb1.mono (by simp <;> omega))
  have c1_0 : v1.cell? ⟨w.heap.size, 0, none⟩ = some (.int .i64 l.o) := by rw [(bcell hb1).1 _ _ (by simp <;> omega), old_box (by simp <;> omega)]; first | (rw [new_at (by simp)]; rfl) | simp
  have c1_1 : v1.cell? ⟨w.heap.size, 1, none⟩ = some (.int .i64 l.s) := by rw [(bcell hb1).1 _ _ (by simp <;> omega), old_box (by simp <;> omega)]; first | (rw [new_at (by simp)]; rfl) | simp
  have c1_2 : v1.cell? ⟨w.heap.size, 2, none⟩ = some (.int .i64 l.g) := by rw [(bcell hb1).1 _ _ (by simp <;> omega), old_box (by simp <;> omega)]; first | (rw [new_at (by simp)]; rfl) | simp
  have c1_3 : v1.cell? ⟨w.heap.size, 3, none⟩ = some (.slice u1 l.K.length e1) := by rw [(bcell hb1).1 _ _ (by simp <;> omega), old_box (by simp <;> omega)]; first | (rw [new_at (by simp)]; rfl) | simp
  have c1_4 : v1.cell? ⟨w.heap.size, 4, none⟩ = some (.slice u2 l.T.length e2) := by rw [(bcell hb1).1 _ _ (by simp <;> omega), old_box (by simp <;> omega)]; first | (rw [new_at (by simp)]; rfl) | simp
  have c1_5 : v1.cell? ⟨w.heap.size + 1, 0, none⟩ = some (.int .i64 old.o) := by rw [(bcell hb1).1 _ _ (by simp)]; first | (rw [new_at (by simp)]; rfl) | simp
  have c1_6 : v1.cell? ⟨w.heap.size + 1, 1, none⟩ = some (.int .i64 old.s) := by rw [(bcell hb1).1 _ _ (by simp)]; first | (rw [new_at (by simp)]; rfl) | simp
  have c1_7 : v1.cell? ⟨w.heap.size + 1, 2, none⟩ = some (.int .i64 old.g) := by rw [(bcell hb1).1 _ _ (by simp)]; first | (rw [new_at (by simp)]; rfl) | simp
  have c1_8 : v1.cell? ⟨w.heap.size + 1, 3, none⟩ = some (.slice x1 old.K.length y1) := by rw [(bcell hb1).1 _ _ (by simp)]; first | (rw [new_at (by simp)]; rfl) | simp
  have c1_9 : v1.cell? ⟨w.heap.size + 1, 4, none⟩ = some (.slice x2 old.T.length y2) := by rw [(bcell hb1).1 _ _ (by simp)]; first | (rw [new_at (by simp)]; rfl) | simp
  have B1 : Hid (Below w.heap.size w v1) := st1
  have R1_0 : Hid (LRow v1 (lo2) (hi2) (.slice u1 l.K.length e1) (.slice u2 l.T.length e2) l.K.length l.T.length (flat2 l.K) (flat l.T)) := L0.out.below st1 (by omega)
  have R1_1 : Hid (LRow v1 (H0) (H1) (.slice x1 old.K.length y1) (.slice x2 old.T.length y2) old.K.length old.T.length (flat2 old.K) (flat old.T)) := R1.out.below st1 (by omega)
  have d1_0 : w.heap.size < v1.heap.size := by omega
  have e1_0 : w.heap.size ≠ v1.heap.size := by omega
  have d1_1 : w.heap.size + 1 < v1.heap.size := by omega
  have e1_1 : w.heap.size + 1 ≠ v1.heap.size := by omega
  clear st1 L0 R1 hb1
  go_wp2_with fail
  go_ret
  exact ⟨by rw [HC.out]; rfl, B1.out⟩
theorem code_any (F : Int -> Option Ls) (l : Ls) (m B lo2 hi2 : Nat) (u x : Value) (w : World) (hs : Shelf w m B F) (hk : Shok F) (hl : l.ok = true) (hr2 : LRow w lo2 hi2 u x l.K.length l.T.length (flat2 l.K) (flat l.T)) (hh2 : hi2 <= w.heap.size) :
    Calls Try.prog 78 #[.map (some m), .agg #[.int .i64 l.o, .int .i64 l.s, .int .i64 l.g, u, x]] w fun e w' => e = .returned (.int .i64 (codeF (F l.o) l)) /\ Below w.heap.size w w' := by
  cases hf : F l.o with
  | none =>
    by_cases hg : l.g = 60
    · have h := code_1 F l m B lo2 hi2 u x w hs hk hl hr2 hh2 hf hg
      rw [hf] at h; exact h
    · have h := code_0 F l m B lo2 hi2 u x w hs hk hl hr2 hh2 hf hg
      rw [hf] at h; exact h
  | some old =>
    obtain ⟨h1, h2⟩ := hk _ _ hf
    rcases newL_three hl h2 h1.symm with hz | hz | hz
    · have h := code_2 F l m B lo2 hi2 u x w hs hk hl hr2 hh2 old hf hz
      rw [hf] at h; exact h
    · have h := code_3 F l m B lo2 hi2 u x w hs hk hl hr2 hh2 old hf hz
      rw [hf] at h; exact h
    · have h := code_4 F l m B lo2 hi2 u x w hs hk hl hr2 hh2 old hf hz
      rw [hf] at h; exact h
theorem else_of_only {m : Nat} {w w1 w2 : World} (h : Below w.heap.size w w1) (ho : Only m w1 w2) : Else m w w2 := (Else.of_below h).trans ho.else_
set_option maxRecDepth 100000 in
set_option maxHeartbeats 4000000 in
theorem install_0 (F : Int -> Option Ls) (l : Ls) (m B lo2 hi2 : Nat) (u x : Value) (w : World) (hs : Shelf w m B F) (hk : Shok F) (hl : l.ok = true) (hr2 : LRow w lo2 hi2 u x l.K.length l.T.length (flat2 l.K) (flat l.T)) (hh2 : hi2 <= w.heap.size) (hB2 : hi2 <= B) (hc : codeF (F l.o) l = 0) :
    Calls Try.prog 51 #[.map (some m), .agg #[.int .i64 l.o, .int .i64 l.s, .int .i64 l.g, u, x]] w fun e w' => e = .returned (.int .i64 0) /\ Shelf w' m B (putF F l) /\ Else m w w' := by
  have L0 := Lib.hid hr2
  have HS := Lib.hid hs
  have HK := Lib.hid hk
  have HL := Lib.hid hl
  have HC := Lib.hid hc
  obtain ⟨u1, e1, u2, e2, q1, q2⟩ := hr2.slice
  subst q1 q2
  have hbd := Ls.ok_bd hl
  have o0 := hbd.1
  have o9 := hbd.2.1
  have sl := hs.lt
  clear hs hk hl hr2 hc hbd
  go_enter Try.func51, Try.ntmps51
  go_wp2_with fail
  go_at_call 78
  refine (code_any F l m B lo2 hi2 _ _ _ (HS.out.below (Bb := w.heap.size) (by go_grown) sl) HK.out HL.out (L0.out.below (B := w.heap.size) (by go_grown) hh2) (by simp; omega)).mono ?_
  rw [HC.out]
  rintro e w1 ⟨rfl, hb1⟩
  have sz1 : w.heap.size + 1 <= w1.heap.size := by have hh := hb1.size; simp at hh; omega
  have st1 : Below w.heap.size w w1 := Below.trans (by go_grown) (hb1.mono (by simp))
  have c0 : w1.cell? ⟨w.heap.size, 0, none⟩ = some (.int .i64 l.o) := by rw [(bcell hb1).1 _ _ (by simp), new_at (by simp)]; rfl
  have c1 : w1.cell? ⟨w.heap.size, 1, none⟩ = some (.int .i64 l.s) := by rw [(bcell hb1).1 _ _ (by simp), new_at (by simp)]; rfl
  have c2 : w1.cell? ⟨w.heap.size, 2, none⟩ = some (.int .i64 l.g) := by rw [(bcell hb1).1 _ _ (by simp), new_at (by simp)]; rfl
  have c3 : w1.cell? ⟨w.heap.size, 3, none⟩ = some (.slice u1 l.K.length e1) := by rw [(bcell hb1).1 _ _ (by simp), new_at (by simp)]; rfl
  have c4 : w1.cell? ⟨w.heap.size, 4, none⟩ = some (.slice u2 l.T.length e2) := by rw [(bcell hb1).1 _ _ (by simp), new_at (by simp)]; rfl
  have HB1 := Lib.hid st1
  have HS1 := HS.out.below st1 sl
  obtain ⟨sB, f, sm, sf⟩ := HS1
  have SM := Lib.hid sm
  have SF := Lib.hid sf
  clear hb1 st1 sm sf
  go_wp2_with (at_mapUpdate; refine wpList_mapUpdate_I _ rfl _ _ _ 82 rfl 3 33 Try.underlying82 Try.underlying3 m f rfl SM.out l.o rfl o0 o9 _ rfl ?_; intro w9 hm9 ho9)
  have HE : Hid (Shelf w9 m B (putF F l)) := Lib.hid (Shelf.put sB SF.out hm9 ho9 (L0.out.below HB1.out hh2) hB2)
  have HO : Hid (Else m w w9) := Lib.hid (else_of_only HB1.out ho9)
  clear hm9 ho9
  go_wp2
  go_ret
  exact ⟨rfl, HE.out, HO.out⟩
set_option maxRecDepth 100000 in
set_option maxHeartbeats 4000000 in
theorem install_1 (F : Int -> Option Ls) (l : Ls) (m B lo2 hi2 : Nat) (u x : Value) (w : World) (hs : Shelf w m B F) (hk : Shok F) (hl : l.ok = true) (hr2 : LRow w lo2 hi2 u x l.K.length l.T.length (flat2 l.K) (flat l.T)) (hh2 : hi2 <= w.heap.size) (hc : codeF (F l.o) l ≠ 0) :
    Calls Try.prog 51 #[.map (some m), .agg #[.int .i64 l.o, .int .i64 l.s, .int .i64 l.g, u, x]] w fun e w' => e = .returned (.int .i64 (codeF (F l.o) l)) /\ Below w.heap.size w w' := by
  have L0 := Lib.hid hr2
  have HS := Lib.hid hs
  have HK := Lib.hid hk
  have HL := Lib.hid hl
  obtain ⟨z, hz⟩ : ∃ z, z = codeF (F l.o) l := ⟨_, rfl⟩
  rw [<- hz] at hc ⊢
  have hzb : (z == 0) = false := by simpa using hc
  have HZ := Lib.hid hz
  obtain ⟨u1, e1, u2, e2, q1, q2⟩ := hr2.slice
  subst q1 q2
  have sl := hs.lt
  clear hs hk hl hr2 hc hz
  go_enter Try.func51, Try.ntmps51
  go_wp2_with fail
  go_at_call 78
  refine (code_any F l m B lo2 hi2 _ _ _ (HS.out.below (Bb := w.heap.size) (by go_grown) sl) HK.out HL.out (L0.out.below (B := w.heap.size) (by go_grown) hh2) (by simp; omega)).mono ?_
  rw [<- HZ.out]
  rintro e w1 ⟨rfl, hb1⟩
  have HB1 : Hid (Below w.heap.size w w1) := Below.trans (by go_grown) (hb1.mono (by simp))
  clear hb1
  go_wp2
  go_ret
  exact ⟨rfl, HB1.out⟩
end Go.Proofs.Ytfpafjdakipccaa
