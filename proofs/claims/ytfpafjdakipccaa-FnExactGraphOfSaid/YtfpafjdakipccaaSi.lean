/- Install of the specification: the ways that change nothing. -/
import Derived.Test.YtfpafjdakipccaaMi
import Derived.Test.YtfpafjdakipccaaFi
import Derived.Test.YtfpafjdakipccaaCp
import Derived.Test.YtfpafjdakipccaaY7
namespace Go.Proofs.Ytfpafjdakipccaa
open Go.RowKit
theorem sfind_is (D : List Ls) (x : Int) (lo hi : Nat) (v : Value) (w : World) (hr : DRow w lo hi v D) (hh : hi <= w.heap.size) {q : Ls} {b : Bool} (hq : flv D x = q) (hb : (flo D x).isSome = b) :
    Calls Try.prog 22 #[.agg #[v], .int .i64 x] w fun e w' => ∃ ru rv, e = .returned (.tuple #[.agg #[.int .i64 q.o, .int .i64 q.s, .int .i64 q.g, ru, rv], .bool b]) /\ LRow w' w.heap.size w'.heap.size ru rv q.K.length q.T.length (flat2 q.K) (flat q.T) /\ Below w.heap.size w w' := by
  subst hq hb
  exact sfind_any D x lo hi v w hr hh
theorem inst_no {D : List Ls} {l : Ls} (h : icode D l ≠ 0) : inst D l = D := if_neg h
theorem inst_yes {D : List Ls} {l : Ls} (h : icode D l = 0) : inst D l = dput D l := if_pos h
theorem icode_bad {D : List Ls} {l : Ls} (h : dokB D = false ∨ l.ok = false) : icode D l = 3 := if_neg fun q => by
  rcases h with h | h
  · rw [h] at q; cases q.1
  · rw [h] at q; cases q.2
theorem icode_ok {D : List Ls} {l : Ls} (h1 : dokB D = true) (h2 : l.ok = true) : icode D l = codeF (dfind D l.o) l := if_pos ⟨h1, h2⟩
theorem flv_some {D : List Ls} {x : Int} {p : Ls} (h : dokB D = true) (hp : dfind D x = some p) : flv D x = p /\ (flo D x).isSome = true := by unfold flv; rw [flo_yes h, hp]; exact ⟨rfl, rfl⟩
theorem flv_none {D : List Ls} {x : Int} (h : dokB D = true) (hp : dfind D x = none) : flv D x = l0 /\ (flo D x).isSome = false := by unfold flv; rw [flo_yes h, hp]; exact ⟨rfl, rfl⟩
set_option maxRecDepth 100000 in
set_option maxHeartbeats 8000000 in
theorem sins_1 (D : List Ls) (l : Ls) (lo hi lo2 hi2 : Nat) (v u x : Value) (w : World) (hr : DRow w lo hi v D) (hr2 : LRow w lo2 hi2 u x l.K.length l.T.length (flat2 l.K) (flat l.T)) (hh : hi <= w.heap.size) (hh2 : hi2 <= w.heap.size) (hd : dtot D <= 1048576) (hv : dokB D = false) :
    Calls Try.prog 29 #[.agg #[v], .agg #[.int .i64 l.o, .int .i64 l.s, .int .i64 l.g, u, x]] w fun e w' => ∃ rv, e = .returned (.tuple #[.agg #[rv], .int .i64 (icode D l)]) /\ DRow w' w.heap.size w'.heap.size rv (inst D l) /\ Below w.heap.size w w' := by
  have HC := Lib.hid (And.intro (icode_bad (l := l) (.inl hv)) (inst_no (l := l) (D := D) (by rw [icode_bad (.inl hv)]; decide)))
  have HV := Lib.hid hv
  clear hv
  have R0 := Lib.hid hr
  have L0 := Lib.hid hr2
  have hr' := hr
  obtain ⟨a, c, us, xs, bs, ev, X⟩ := hr'
  subst ev
  obtain ⟨u1, e1, u2, e2, q1, q2⟩ := hr2.slice
  subst q1 q2
  obtain ⟨n, hn⟩ : ∃ n, n = D.length := ⟨_, rfl⟩
  rw [<- hn] at R0 ⊢
  have HN := Lib.hid hn
  clear X hr2 hn hr
  go_enter Try.func29, Try.ntmps29
  go_wp2_with fail
  go_at_call 14
  refine (sdbok_any D lo hi _ _ (R0.out.below (B := w.heap.size) (by go_grown) (by omega)) (by first | omega | (simp; omega) | simp)).mono ?_
  rw [HV.out]
  rintro e v1 ⟨rfl, hb1⟩
  have sz1 : w.heap.size + 3 <= v1.heap.size := by have hh := hb1.size; simp at hh; omega
  have st1 : Below w.heap.size w v1 := Below.trans (by go_grown) (hb1.mono (by simp <;> omega))
  have c1_0 : v1.cell? ⟨w.heap.size, 0, none⟩ = some (.slice a n c) := by rw [(bcell hb1).1 _ _ (by simp <;> omega), old_box (by simp <;> omega), old_box (by simp <;> omega)]; first | (rw [new_at (by simp)]; rfl) | simp
  have c1_1 : v1.cell? ⟨w.heap.size + 1, 0, none⟩ = some (.int .i64 l.o) := by rw [(bcell hb1).1 _ _ (by simp <;> omega), old_box (by simp <;> omega)]; first | (rw [new_at (by simp)]; rfl) | simp
  have c1_2 : v1.cell? ⟨w.heap.size + 1, 1, none⟩ = some (.int .i64 l.s) := by rw [(bcell hb1).1 _ _ (by simp <;> omega), old_box (by simp <;> omega)]; first | (rw [new_at (by simp)]; rfl) | simp
  have c1_3 : v1.cell? ⟨w.heap.size + 1, 2, none⟩ = some (.int .i64 l.g) := by rw [(bcell hb1).1 _ _ (by simp <;> omega), old_box (by simp <;> omega)]; first | (rw [new_at (by simp)]; rfl) | simp
  have c1_4 : v1.cell? ⟨w.heap.size + 1, 3, none⟩ = some (.slice u1 l.K.length e1) := by rw [(bcell hb1).1 _ _ (by simp <;> omega), old_box (by simp <;> omega)]; first | (rw [new_at (by simp)]; rfl) | simp
  have c1_5 : v1.cell? ⟨w.heap.size + 1, 4, none⟩ = some (.slice u2 l.T.length e2) := by rw [(bcell hb1).1 _ _ (by simp <;> omega), old_box (by simp <;> omega)]; first | (rw [new_at (by simp)]; rfl) | simp
  have c1_6 : v1.cell? ⟨w.heap.size + 1 + 1, 0, none⟩ = some (.slice none 0 0) := by rw [(bcell hb1).1 _ _ (by simp)]; first | (rw [new_at (by simp)]; rfl) | simp
  have g1_0 : v1.frozen? ⟨w.heap.size + 1 + 1, 0, none⟩ = false := by rw [(bcell hb1).2 _ _ (by simp), new_frz (by simp)]
  have B1 : Hid (Below w.heap.size w v1) := st1
  have R1_0 : Hid (DRow v1 (lo) (hi) (.slice a n c)  D) := R0.out.below st1 (by omega)
  have R1_1 : Hid (LRow v1 (lo2) (hi2) (.slice u1 l.K.length e1) (.slice u2 l.T.length e2) l.K.length l.T.length (flat2 l.K) (flat l.T)) := L0.out.below st1 (by omega)
  have d1_0 : w.heap.size < v1.heap.size := by omega
  have e1_0 : w.heap.size ≠ v1.heap.size := by omega
  have d1_1 : w.heap.size + 1 < v1.heap.size := by omega
  have e1_1 : w.heap.size + 1 ≠ v1.heap.size := by omega
  have d1_2 : w.heap.size + 1 + 1 < v1.heap.size := by omega
  have e1_2 : w.heap.size + 1 + 1 ≠ v1.heap.size := by omega
  clear st1 R0 L0 hb1
  go_wp2_with fail
  go_at_call 69
  refine (sdcopy_any D lo hi _ _ R1_0.out (by first | omega | (simp; omega) | simp) hd).mono ?_
  rintro e v2 ⟨rv, rfl, hr9, hb2⟩
  have sz2 : v1.heap.size <= v2.heap.size := hb2.size
  have st2 : Below v1.heap.size v1 v2 := hb2
  have c2_0 : v2.cell? ⟨w.heap.size, 0, none⟩ = some (.slice a n c) := by rw [(bcell st2).1 _ _ (by omega)]; exact c1_0
  have c2_1 : v2.cell? ⟨w.heap.size + 1, 0, none⟩ = some (.int .i64 l.o) := by rw [(bcell st2).1 _ _ (by omega)]; exact c1_1
  have c2_2 : v2.cell? ⟨w.heap.size + 1, 1, none⟩ = some (.int .i64 l.s) := by rw [(bcell st2).1 _ _ (by omega)]; exact c1_2
  have c2_3 : v2.cell? ⟨w.heap.size + 1, 2, none⟩ = some (.int .i64 l.g) := by rw [(bcell st2).1 _ _ (by omega)]; exact c1_3
  have c2_4 : v2.cell? ⟨w.heap.size + 1, 3, none⟩ = some (.slice u1 l.K.length e1) := by rw [(bcell st2).1 _ _ (by omega)]; exact c1_4
  have c2_5 : v2.cell? ⟨w.heap.size + 1, 4, none⟩ = some (.slice u2 l.T.length e2) := by rw [(bcell st2).1 _ _ (by omega)]; exact c1_5
  have c2_6 : v2.cell? ⟨w.heap.size + 1 + 1, 0, none⟩ = some (.slice none 0 0) := by rw [(bcell st2).1 _ _ (by omega)]; exact c1_6
  have g2_0 : v2.frozen? ⟨w.heap.size + 1 + 1, 0, none⟩ = false := by rw [(bcell st2).2 _ _ (by omega)]; exact g1_0
  have B2 : Hid (Below w.heap.size w v2) := B1.out.trans (st2.mono (by omega))
  have R2_0 : Hid (DRow v2 (lo) (hi) (.slice a n c)  D) := R1_0.out.below st2 (by omega)
  have R2_1 : Hid (LRow v2 (lo2) (hi2) (.slice u1 l.K.length e1) (.slice u2 l.T.length e2) l.K.length l.T.length (flat2 l.K) (flat l.T)) := R1_1.out.below st2 (by omega)
  have R2_2 : Hid (DRow v2 (v1.heap.size) (v2.heap.size) rv  D) := Lib.hid hr9
  have d2_0 : w.heap.size < v2.heap.size := by omega
  have e2_0 : w.heap.size ≠ v2.heap.size := by omega
  have d2_1 : w.heap.size + 1 < v2.heap.size := by omega
  have e2_1 : w.heap.size + 1 ≠ v2.heap.size := by omega
  have d2_2 : w.heap.size + 1 + 1 < v2.heap.size := by omega
  have e2_2 : w.heap.size + 1 + 1 ≠ v2.heap.size := by omega
  clear d1_0 e1_0 d1_1 e1_1 d1_2 e1_2 c1_0 c1_1 c1_2 c1_3 c1_4 c1_5 c1_6 g1_0 B1 st2 R1_0 R1_1 hb2
  obtain ⟨ra, rc, er⟩ := R2_2.out.slice
  subst er
  clear hr9
  go_wp2_with fail
  refine bodyPost_ret (v := .tuple #[.agg #[.slice ra D.length rc], .int .i64 3]) (by simp [results, Try.results29, go_sem, *]) rfl ⟨_, by rw [HC.out.1], ?_, ?_⟩
  · rw [HC.out.2]; exact ((R2_2.out.setCell (.inl (by simp <;> omega)) _).wide (by omega) (by simp [World.setCell] <;> omega))
  · exact (B2.out.setCell (by simp <;> omega) _)
set_option maxRecDepth 100000 in
set_option maxHeartbeats 8000000 in
theorem sins_2 (D : List Ls) (l : Ls) (lo hi lo2 hi2 : Nat) (v u x : Value) (w : World) (hr : DRow w lo hi v D) (hr2 : LRow w lo2 hi2 u x l.K.length l.T.length (flat2 l.K) (flat l.T)) (hh : hi <= w.heap.size) (hh2 : hi2 <= w.heap.size) (hd : dtot D <= 1048576) (hv : dokB D = true) (hl : l.ok = false) :
    Calls Try.prog 29 #[.agg #[v], .agg #[.int .i64 l.o, .int .i64 l.s, .int .i64 l.g, u, x]] w fun e w' => ∃ rv, e = .returned (.tuple #[.agg #[rv], .int .i64 (icode D l)]) /\ DRow w' w.heap.size w'.heap.size rv (inst D l) /\ Below w.heap.size w w' := by
  have HC := Lib.hid (And.intro (icode_bad (D := D) (.inr hl)) (inst_no (l := l) (D := D) (by rw [icode_bad (.inr hl)]; decide)))
  have HV := Lib.hid hv
  have HL := Lib.hid ((Ls.ok_def l).trans hl)
  clear hv hl
  have R0 := Lib.hid hr
  have L0 := Lib.hid hr2
  have hr' := hr
  obtain ⟨a, c, us, xs, bs, ev, X⟩ := hr'
  subst ev
  obtain ⟨u1, e1, u2, e2, q1, q2⟩ := hr2.slice
  subst q1 q2
  obtain ⟨n, hn⟩ : ∃ n, n = D.length := ⟨_, rfl⟩
  rw [<- hn] at R0 ⊢
  have HN := Lib.hid hn
  clear X hr2 hn hr
  go_enter Try.func29, Try.ntmps29
  go_wp2_with fail
  go_at_call 14
  refine (sdbok_any D lo hi _ _ (R0.out.below (B := w.heap.size) (by go_grown) (by omega)) (by first | omega | (simp; omega) | simp)).mono ?_
  rw [HV.out]
  rintro e v1 ⟨rfl, hb1⟩
  have sz1 : w.heap.size + 3 <= v1.heap.size := by have hh := hb1.size; simp at hh; omega
  have st1 : Below w.heap.size w v1 := Below.trans (by go_grown) (hb1.mono (by simp <;> omega))
  have c1_0 : v1.cell? ⟨w.heap.size, 0, none⟩ = some (.slice a n c) := by rw [(bcell hb1).1 _ _ (by simp <;> omega), old_box (by simp <;> omega), old_box (by simp <;> omega)]; first | (rw [new_at (by simp)]; rfl) | simp
  have c1_1 : v1.cell? ⟨w.heap.size + 1, 0, none⟩ = some (.int .i64 l.o) := by rw [(bcell hb1).1 _ _ (by simp <;> omega), old_box (by simp <;> omega)]; first | (rw [new_at (by simp)]; rfl) | simp
  have c1_2 : v1.cell? ⟨w.heap.size + 1, 1, none⟩ = some (.int .i64 l.s) := by rw [(bcell hb1).1 _ _ (by simp <;> omega), old_box (by simp <;> omega)]; first | (rw [new_at (by simp)]; rfl) | simp
  have c1_3 : v1.cell? ⟨w.heap.size + 1, 2, none⟩ = some (.int .i64 l.g) := by rw [(bcell hb1).1 _ _ (by simp <;> omega), old_box (by simp <;> omega)]; first | (rw [new_at (by simp)]; rfl) | simp
  have c1_4 : v1.cell? ⟨w.heap.size + 1, 3, none⟩ = some (.slice u1 l.K.length e1) := by rw [(bcell hb1).1 _ _ (by simp <;> omega), old_box (by simp <;> omega)]; first | (rw [new_at (by simp)]; rfl) | simp
  have c1_5 : v1.cell? ⟨w.heap.size + 1, 4, none⟩ = some (.slice u2 l.T.length e2) := by rw [(bcell hb1).1 _ _ (by simp <;> omega), old_box (by simp <;> omega)]; first | (rw [new_at (by simp)]; rfl) | simp
  have c1_6 : v1.cell? ⟨w.heap.size + 1 + 1, 0, none⟩ = some (.slice none 0 0) := by rw [(bcell hb1).1 _ _ (by simp)]; first | (rw [new_at (by simp)]; rfl) | simp
  have g1_0 : v1.frozen? ⟨w.heap.size + 1 + 1, 0, none⟩ = false := by rw [(bcell hb1).2 _ _ (by simp), new_frz (by simp)]
  have B1 : Hid (Below w.heap.size w v1) := st1
  have R1_0 : Hid (DRow v1 (lo) (hi) (.slice a n c)  D) := R0.out.below st1 (by omega)
  have R1_1 : Hid (LRow v1 (lo2) (hi2) (.slice u1 l.K.length e1) (.slice u2 l.T.length e2) l.K.length l.T.length (flat2 l.K) (flat l.T)) := L0.out.below st1 (by omega)
  have d1_0 : w.heap.size < v1.heap.size := by omega
  have e1_0 : w.heap.size ≠ v1.heap.size := by omega
  have d1_1 : w.heap.size + 1 < v1.heap.size := by omega
  have e1_1 : w.heap.size + 1 ≠ v1.heap.size := by omega
  have d1_2 : w.heap.size + 1 + 1 < v1.heap.size := by omega
  have e1_2 : w.heap.size + 1 + 1 ≠ v1.heap.size := by omega
  clear st1 R0 L0 hb1
  go_wp2_with fail
  go_at_call 48
  refine (slok_any l.o l.s l.g lo2 hi2 lo2 hi2 l.K.length l.T.length _ _ l.K l.T _ rfl rfl R1_1.out.fst R1_1.out.snd (by first | omega | (simp; omega) | simp) (by first | omega | (simp; omega) | simp)).mono ?_
  rw [HL.out]
  rintro e v2 ⟨rfl, hb2⟩
  have sz2 : v1.heap.size <= v2.heap.size := hb2.size
  have st2 : Below v1.heap.size v1 v2 := hb2
  have c2_0 : v2.cell? ⟨w.heap.size, 0, none⟩ = some (.slice a n c) := by rw [(bcell st2).1 _ _ (by omega)]; exact c1_0
  have c2_1 : v2.cell? ⟨w.heap.size + 1, 0, none⟩ = some (.int .i64 l.o) := by rw [(bcell st2).1 _ _ (by omega)]; exact c1_1
  have c2_2 : v2.cell? ⟨w.heap.size + 1, 1, none⟩ = some (.int .i64 l.s) := by rw [(bcell st2).1 _ _ (by omega)]; exact c1_2
  have c2_3 : v2.cell? ⟨w.heap.size + 1, 2, none⟩ = some (.int .i64 l.g) := by rw [(bcell st2).1 _ _ (by omega)]; exact c1_3
  have c2_4 : v2.cell? ⟨w.heap.size + 1, 3, none⟩ = some (.slice u1 l.K.length e1) := by rw [(bcell st2).1 _ _ (by omega)]; exact c1_4
  have c2_5 : v2.cell? ⟨w.heap.size + 1, 4, none⟩ = some (.slice u2 l.T.length e2) := by rw [(bcell st2).1 _ _ (by omega)]; exact c1_5
  have c2_6 : v2.cell? ⟨w.heap.size + 1 + 1, 0, none⟩ = some (.slice none 0 0) := by rw [(bcell st2).1 _ _ (by omega)]; exact c1_6
  have g2_0 : v2.frozen? ⟨w.heap.size + 1 + 1, 0, none⟩ = false := by rw [(bcell st2).2 _ _ (by omega)]; exact g1_0
  have B2 : Hid (Below w.heap.size w v2) := B1.out.trans (st2.mono (by omega))
  have R2_0 : Hid (DRow v2 (lo) (hi) (.slice a n c)  D) := R1_0.out.below st2 (by omega)
  have R2_1 : Hid (LRow v2 (lo2) (hi2) (.slice u1 l.K.length e1) (.slice u2 l.T.length e2) l.K.length l.T.length (flat2 l.K) (flat l.T)) := R1_1.out.below st2 (by omega)
  have d2_0 : w.heap.size < v2.heap.size := by omega
  have e2_0 : w.heap.size ≠ v2.heap.size := by omega
  have d2_1 : w.heap.size + 1 < v2.heap.size := by omega
  have e2_1 : w.heap.size + 1 ≠ v2.heap.size := by omega
  have d2_2 : w.heap.size + 1 + 1 < v2.heap.size := by omega
  have e2_2 : w.heap.size + 1 + 1 ≠ v2.heap.size := by omega
  clear d1_0 e1_0 d1_1 e1_1 d1_2 e1_2 c1_0 c1_1 c1_2 c1_3 c1_4 c1_5 c1_6 g1_0 B1 st2 R1_0 R1_1 hb2
  go_wp2_with fail
  go_at_call 69
  refine (sdcopy_any D lo hi _ _ R2_0.out (by first | omega | (simp; omega) | simp) hd).mono ?_
  rintro e v3 ⟨rv, rfl, hr9, hb3⟩
  have sz3 : v2.heap.size <= v3.heap.size := hb3.size
  have st3 : Below v2.heap.size v2 v3 := hb3
  have c3_0 : v3.cell? ⟨w.heap.size, 0, none⟩ = some (.slice a n c) := by rw [(bcell st3).1 _ _ (by omega)]; exact c2_0
  have c3_1 : v3.cell? ⟨w.heap.size + 1, 0, none⟩ = some (.int .i64 l.o) := by rw [(bcell st3).1 _ _ (by omega)]; exact c2_1
  have c3_2 : v3.cell? ⟨w.heap.size + 1, 1, none⟩ = some (.int .i64 l.s) := by rw [(bcell st3).1 _ _ (by omega)]; exact c2_2
  have c3_3 : v3.cell? ⟨w.heap.size + 1, 2, none⟩ = some (.int .i64 l.g) := by rw [(bcell st3).1 _ _ (by omega)]; exact c2_3
  have c3_4 : v3.cell? ⟨w.heap.size + 1, 3, none⟩ = some (.slice u1 l.K.length e1) := by rw [(bcell st3).1 _ _ (by omega)]; exact c2_4
  have c3_5 : v3.cell? ⟨w.heap.size + 1, 4, none⟩ = some (.slice u2 l.T.length e2) := by rw [(bcell st3).1 _ _ (by omega)]; exact c2_5
  have c3_6 : v3.cell? ⟨w.heap.size + 1 + 1, 0, none⟩ = some (.slice none 0 0) := by rw [(bcell st3).1 _ _ (by omega)]; exact c2_6
  have g3_0 : v3.frozen? ⟨w.heap.size + 1 + 1, 0, none⟩ = false := by rw [(bcell st3).2 _ _ (by omega)]; exact g2_0
  have B3 : Hid (Below w.heap.size w v3) := B2.out.trans (st3.mono (by omega))
  have R3_0 : Hid (DRow v3 (lo) (hi) (.slice a n c)  D) := R2_0.out.below st3 (by omega)
  have R3_1 : Hid (LRow v3 (lo2) (hi2) (.slice u1 l.K.length e1) (.slice u2 l.T.length e2) l.K.length l.T.length (flat2 l.K) (flat l.T)) := R2_1.out.below st3 (by omega)
  have R3_2 : Hid (DRow v3 (v2.heap.size) (v3.heap.size) rv  D) := Lib.hid hr9
  have d3_0 : w.heap.size < v3.heap.size := by omega
  have e3_0 : w.heap.size ≠ v3.heap.size := by omega
  have d3_1 : w.heap.size + 1 < v3.heap.size := by omega
  have e3_1 : w.heap.size + 1 ≠ v3.heap.size := by omega
  have d3_2 : w.heap.size + 1 + 1 < v3.heap.size := by omega
  have e3_2 : w.heap.size + 1 + 1 ≠ v3.heap.size := by omega
  clear d2_0 e2_0 d2_1 e2_1 d2_2 e2_2 c2_0 c2_1 c2_2 c2_3 c2_4 c2_5 c2_6 g2_0 B2 st3 R2_0 R2_1 hb3
  obtain ⟨ra, rc, er⟩ := R3_2.out.slice
  subst er
  clear hr9
  go_wp2_with fail
  refine bodyPost_ret (v := .tuple #[.agg #[.slice ra D.length rc], .int .i64 3]) (by simp [results, Try.results29, go_sem, *]) rfl ⟨_, by rw [HC.out.1], ?_, ?_⟩
  · rw [HC.out.2]; exact ((R3_2.out.setCell (.inl (by simp <;> omega)) _).wide (by omega) (by simp [World.setCell] <;> omega))
  · exact (B3.out.setCell (by simp <;> omega) _)
set_option maxRecDepth 100000 in
set_option maxHeartbeats 8000000 in
theorem sins_3 (D : List Ls) (l : Ls) (lo hi lo2 hi2 : Nat) (v u x : Value) (w : World) (hr : DRow w lo hi v D) (hr2 : LRow w lo2 hi2 u x l.K.length l.T.length (flat2 l.K) (flat l.T)) (hh : hi <= w.heap.size) (hh2 : hi2 <= w.heap.size) (hd : dtot D <= 1048576) (hv : dokB D = true) (hl : l.ok = true) (hf : dfind D l.o = none) (hg : l.g = 60) :
    Calls Try.prog 29 #[.agg #[v], .agg #[.int .i64 l.o, .int .i64 l.s, .int .i64 l.g, u, x]] w fun e w' => ∃ rv, e = .returned (.tuple #[.agg #[rv], .int .i64 (icode D l)]) /\ DRow w' w.heap.size w'.heap.size rv (inst D l) /\ Below w.heap.size w w' := by
  obtain ⟨old, hold⟩ : ∃ q, q = l0 := ⟨_, rfl⟩
  have hcode : icode D l = 1 := by rw [icode_ok hv hl, hf]; exact if_pos hg
  have HQ := Lib.hid (flv_none hv hf).1
  have HB := Lib.hid (flv_none hv hf).2
  have HC := Lib.hid (And.intro hcode (inst_no (l := l) (D := D) (by rw [hcode]; decide)))
  have HV := Lib.hid hv
  have HL := Lib.hid ((Ls.ok_def l).trans hl)
  have HOK := Lib.hid hl
  rw [<- hold] at HQ
  have hg2 : (l.g == 60) = true := by simp [hg]
  clear hv hl hf hg hcode hold
  have R0 := Lib.hid hr
  have L0 := Lib.hid hr2
  have hr' := hr
  obtain ⟨a, c, us, xs, bs, ev, X⟩ := hr'
  subst ev
  obtain ⟨u1, e1, u2, e2, q1, q2⟩ := hr2.slice
  subst q1 q2
  obtain ⟨n, hn⟩ : ∃ n, n = D.length := ⟨_, rfl⟩
  rw [<- hn] at R0 ⊢
  have HN := Lib.hid hn
  clear X hr2 hn hr
  go_enter Try.func29, Try.ntmps29
  go_wp2_with fail
  go_at_call 14
  refine (sdbok_any D lo hi _ _ (R0.out.below (B := w.heap.size) (by go_grown) (by omega)) (by first | omega | (simp; omega) | simp)).mono ?_
  rw [HV.out]
  rintro e v1 ⟨rfl, hb1⟩
  have sz1 : w.heap.size + 3 <= v1.heap.size := by have hh := hb1.size; simp at hh; omega
  have st1 : Below w.heap.size w v1 := Below.trans (by go_grown) (hb1.mono (by simp <;> omega))
  have c1_0 : v1.cell? ⟨w.heap.size, 0, none⟩ = some (.slice a n c) := by rw [(bcell hb1).1 _ _ (by simp <;> omega), old_box (by simp <;> omega), old_box (by simp <;> omega)]; first | (rw [new_at (by simp)]; rfl) | simp
  have c1_1 : v1.cell? ⟨w.heap.size + 1, 0, none⟩ = some (.int .i64 l.o) := by rw [(bcell hb1).1 _ _ (by simp <;> omega), old_box (by simp <;> omega)]; first | (rw [new_at (by simp)]; rfl) | simp
  have c1_2 : v1.cell? ⟨w.heap.size + 1, 1, none⟩ = some (.int .i64 l.s) := by rw [(bcell hb1).1 _ _ (by simp <;> omega), old_box (by simp <;> omega)]; first | (rw [new_at (by simp)]; rfl) | simp
  have c1_3 : v1.cell? ⟨w.heap.size + 1, 2, none⟩ = some (.int .i64 l.g) := by rw [(bcell hb1).1 _ _ (by simp <;> omega), old_box (by simp <;> omega)]; first | (rw [new_at (by simp)]; rfl) | simp
  have c1_4 : v1.cell? ⟨w.heap.size + 1, 3, none⟩ = some (.slice u1 l.K.length e1) := by rw [(bcell hb1).1 _ _ (by simp <;> omega), old_box (by simp <;> omega)]; first | (rw [new_at (by simp)]; rfl) | simp
  have c1_5 : v1.cell? ⟨w.heap.size + 1, 4, none⟩ = some (.slice u2 l.T.length e2) := by rw [(bcell hb1).1 _ _ (by simp <;> omega), old_box (by simp <;> omega)]; first | (rw [new_at (by simp)]; rfl) | simp
  have c1_6 : v1.cell? ⟨w.heap.size + 1 + 1, 0, none⟩ = some (.slice none 0 0) := by rw [(bcell hb1).1 _ _ (by simp)]; first | (rw [new_at (by simp)]; rfl) | simp
  have g1_0 : v1.frozen? ⟨w.heap.size + 1 + 1, 0, none⟩ = false := by rw [(bcell hb1).2 _ _ (by simp), new_frz (by simp)]
  have B1 : Hid (Below w.heap.size w v1) := st1
  have R1_0 : Hid (DRow v1 (lo) (hi) (.slice a n c)  D) := R0.out.below st1 (by omega)
  have R1_1 : Hid (LRow v1 (lo2) (hi2) (.slice u1 l.K.length e1) (.slice u2 l.T.length e2) l.K.length l.T.length (flat2 l.K) (flat l.T)) := L0.out.below st1 (by omega)
  have d1_0 : w.heap.size < v1.heap.size := by omega
  have e1_0 : w.heap.size ≠ v1.heap.size := by omega
  have d1_1 : w.heap.size + 1 < v1.heap.size := by omega
  have e1_1 : w.heap.size + 1 ≠ v1.heap.size := by omega
  have d1_2 : w.heap.size + 1 + 1 < v1.heap.size := by omega
  have e1_2 : w.heap.size + 1 + 1 ≠ v1.heap.size := by omega
  clear st1 R0 L0 hb1
  go_wp2_with fail
  go_at_call 48
  refine (slok_any l.o l.s l.g lo2 hi2 lo2 hi2 l.K.length l.T.length _ _ l.K l.T _ rfl rfl R1_1.out.fst R1_1.out.snd (by first | omega | (simp; omega) | simp) (by first | omega | (simp; omega) | simp)).mono ?_
  rw [HL.out]
  rintro e v2 ⟨rfl, hb2⟩
  have sz2 : v1.heap.size <= v2.heap.size := hb2.size
  have st2 : Below v1.heap.size v1 v2 := hb2
  have c2_0 : v2.cell? ⟨w.heap.size, 0, none⟩ = some (.slice a n c) := by rw [(bcell st2).1 _ _ (by omega)]; exact c1_0
  have c2_1 : v2.cell? ⟨w.heap.size + 1, 0, none⟩ = some (.int .i64 l.o) := by rw [(bcell st2).1 _ _ (by omega)]; exact c1_1
  have c2_2 : v2.cell? ⟨w.heap.size + 1, 1, none⟩ = some (.int .i64 l.s) := by rw [(bcell st2).1 _ _ (by omega)]; exact c1_2
  have c2_3 : v2.cell? ⟨w.heap.size + 1, 2, none⟩ = some (.int .i64 l.g) := by rw [(bcell st2).1 _ _ (by omega)]; exact c1_3
  have c2_4 : v2.cell? ⟨w.heap.size + 1, 3, none⟩ = some (.slice u1 l.K.length e1) := by rw [(bcell st2).1 _ _ (by omega)]; exact c1_4
  have c2_5 : v2.cell? ⟨w.heap.size + 1, 4, none⟩ = some (.slice u2 l.T.length e2) := by rw [(bcell st2).1 _ _ (by omega)]; exact c1_5
  have c2_6 : v2.cell? ⟨w.heap.size + 1 + 1, 0, none⟩ = some (.slice none 0 0) := by rw [(bcell st2).1 _ _ (by omega)]; exact c1_6
  have g2_0 : v2.frozen? ⟨w.heap.size + 1 + 1, 0, none⟩ = false := by rw [(bcell st2).2 _ _ (by omega)]; exact g1_0
  have B2 : Hid (Below w.heap.size w v2) := B1.out.trans (st2.mono (by omega))
  have R2_0 : Hid (DRow v2 (lo) (hi) (.slice a n c)  D) := R1_0.out.below st2 (by omega)
  have R2_1 : Hid (LRow v2 (lo2) (hi2) (.slice u1 l.K.length e1) (.slice u2 l.T.length e2) l.K.length l.T.length (flat2 l.K) (flat l.T)) := R1_1.out.below st2 (by omega)
  have d2_0 : w.heap.size < v2.heap.size := by omega
  have e2_0 : w.heap.size ≠ v2.heap.size := by omega
  have d2_1 : w.heap.size + 1 < v2.heap.size := by omega
  have e2_1 : w.heap.size + 1 ≠ v2.heap.size := by omega
  have d2_2 : w.heap.size + 1 + 1 < v2.heap.size := by omega
  have e2_2 : w.heap.size + 1 + 1 ≠ v2.heap.size := by omega
  clear d1_0 e1_0 d1_1 e1_1 d1_2 e1_2 c1_0 c1_1 c1_2 c1_3 c1_4 c1_5 c1_6 g1_0 B1 st2 R1_0 R1_1 hb2
  go_wp2_with fail
  go_at_call 22
  refine (sfind_is D l.o lo hi _ _ R2_0.out (by first | omega | (simp; omega) | simp) HQ.out HB.out).mono ?_
  rintro e v3 ⟨ru, rv, rfl, hr1, hb3⟩
  have sz3 : v2.heap.size <= v3.heap.size := hb3.size
  have st3 : Below v2.heap.size v2 v3 := hb3
  have c3_0 : v3.cell? ⟨w.heap.size, 0, none⟩ = some (.slice a n c) := by rw [(bcell st3).1 _ _ (by omega)]; exact c2_0
  have c3_1 : v3.cell? ⟨w.heap.size + 1, 0, none⟩ = some (.int .i64 l.o) := by rw [(bcell st3).1 _ _ (by omega)]; exact c2_1
  have c3_2 : v3.cell? ⟨w.heap.size + 1, 1, none⟩ = some (.int .i64 l.s) := by rw [(bcell st3).1 _ _ (by omega)]; exact c2_2
  have c3_3 : v3.cell? ⟨w.heap.size + 1, 2, none⟩ = some (.int .i64 l.g) := by rw [(bcell st3).1 _ _ (by omega)]; exact c2_3
  have c3_4 : v3.cell? ⟨w.heap.size + 1, 3, none⟩ = some (.slice u1 l.K.length e1) := by rw [(bcell st3).1 _ _ (by omega)]; exact c2_4
  have c3_5 : v3.cell? ⟨w.heap.size + 1, 4, none⟩ = some (.slice u2 l.T.length e2) := by rw [(bcell st3).1 _ _ (by omega)]; exact c2_5
  have c3_6 : v3.cell? ⟨w.heap.size + 1 + 1, 0, none⟩ = some (.slice none 0 0) := by rw [(bcell st3).1 _ _ (by omega)]; exact c2_6
  have g3_0 : v3.frozen? ⟨w.heap.size + 1 + 1, 0, none⟩ = false := by rw [(bcell st3).2 _ _ (by omega)]; exact g2_0
  have B3 : Hid (Below w.heap.size w v3) := B2.out.trans (st3.mono (by omega))
  have R3_0 : Hid (DRow v3 (lo) (hi) (.slice a n c)  D) := R2_0.out.below st3 (by omega)
  have R3_1 : Hid (LRow v3 (lo2) (hi2) (.slice u1 l.K.length e1) (.slice u2 l.T.length e2) l.K.length l.T.length (flat2 l.K) (flat l.T)) := R2_1.out.below st3 (by omega)
  have R3_2 : Hid (LRow v3 (v2.heap.size) (v3.heap.size) ru rv old.K.length old.T.length (flat2 old.K) (flat old.T)) := Lib.hid hr1
  have d3_0 : w.heap.size < v3.heap.size := by omega
  have e3_0 : w.heap.size ≠ v3.heap.size := by omega
  have d3_1 : w.heap.size + 1 < v3.heap.size := by omega
  have e3_1 : w.heap.size + 1 ≠ v3.heap.size := by omega
  have d3_2 : w.heap.size + 1 + 1 < v3.heap.size := by omega
  have e3_2 : w.heap.size + 1 + 1 ≠ v3.heap.size := by omega
  clear d2_0 e2_0 d2_1 e2_1 d2_2 e2_2 c2_0 c2_1 c2_2 c2_3 c2_4 c2_5 c2_6 g2_0 B2 st3 R2_0 R2_1 hb3
  obtain ⟨oa, oc, pa, pc, rfl, rfl⟩ := R3_2.out.slice
  clear hr1
  go_wp2_with fail
  go_at_call 69
  refine (sdcopy_any D lo hi _ _ (R3_0.out.below (B := v3.heap.size) (by go_grown) (by omega)) (by first | omega | (simp; omega) | simp) hd).mono ?_
  rintro e v4 ⟨rv, rfl, hr9, hb4⟩
  have sz4 : v3.heap.size + 1 <= v4.heap.size := by have hh := hb4.size; simp at hh; omega
  have st4 : Below v3.heap.size v3 v4 := Below.trans (by go_grown) (hb4.mono (by simp))
  have c4_0 : v4.cell? ⟨w.heap.size, 0, none⟩ = some (.slice a n c) := by rw [(bcell st4).1 _ _ (by omega)]; exact c3_0
  have c4_1 : v4.cell? ⟨w.heap.size + 1, 0, none⟩ = some (.int .i64 l.o) := by rw [(bcell st4).1 _ _ (by omega)]; exact c3_1
  have c4_2 : v4.cell? ⟨w.heap.size + 1, 1, none⟩ = some (.int .i64 l.s) := by rw [(bcell st4).1 _ _ (by omega)]; exact c3_2
  have c4_3 : v4.cell? ⟨w.heap.size + 1, 2, none⟩ = some (.int .i64 l.g) := by rw [(bcell st4).1 _ _ (by omega)]; exact c3_3
  have c4_4 : v4.cell? ⟨w.heap.size + 1, 3, none⟩ = some (.slice u1 l.K.length e1) := by rw [(bcell st4).1 _ _ (by omega)]; exact c3_4
  have c4_5 : v4.cell? ⟨w.heap.size + 1, 4, none⟩ = some (.slice u2 l.T.length e2) := by rw [(bcell st4).1 _ _ (by omega)]; exact c3_5
  have c4_6 : v4.cell? ⟨w.heap.size + 1 + 1, 0, none⟩ = some (.slice none 0 0) := by rw [(bcell st4).1 _ _ (by omega)]; exact c3_6
  have c4_7 : v4.cell? ⟨v3.heap.size, 0, none⟩ = some (.int .i64 old.o) := by rw [(bcell hb4).1 _ _ (by simp)]; first | (rw [new_at (by simp)]; rfl) | simp
  have c4_8 : v4.cell? ⟨v3.heap.size, 1, none⟩ = some (.int .i64 old.s) := by rw [(bcell hb4).1 _ _ (by simp)]; first | (rw [new_at (by simp)]; rfl) | simp
  have c4_9 : v4.cell? ⟨v3.heap.size, 2, none⟩ = some (.int .i64 old.g) := by rw [(bcell hb4).1 _ _ (by simp)]; first | (rw [new_at (by simp)]; rfl) | simp
  have c4_10 : v4.cell? ⟨v3.heap.size, 3, none⟩ = some (.slice oa old.K.length oc) := by rw [(bcell hb4).1 _ _ (by simp)]; first | (rw [new_at (by simp)]; rfl) | simp
  have c4_11 : v4.cell? ⟨v3.heap.size, 4, none⟩ = some (.slice pa old.T.length pc) := by rw [(bcell hb4).1 _ _ (by simp)]; first | (rw [new_at (by simp)]; rfl) | simp
  have g4_0 : v4.frozen? ⟨w.heap.size + 1 + 1, 0, none⟩ = false := by rw [(bcell st4).2 _ _ (by omega)]; exact g3_0
  have B4 : Hid (Below w.heap.size w v4) := B3.out.trans (st4.mono (by omega))
  have R4_0 : Hid (DRow v4 (lo) (hi) (.slice a n c)  D) := R3_0.out.below st4 (by omega)
  have R4_1 : Hid (LRow v4 (lo2) (hi2) (.slice u1 l.K.length e1) (.slice u2 l.T.length e2) l.K.length l.T.length (flat2 l.K) (flat l.T)) := R3_1.out.below st4 (by omega)
  have R4_2 : Hid (LRow v4 (v2.heap.size) (v3.heap.size) (.slice oa old.K.length oc) (.slice pa old.T.length pc) old.K.length old.T.length (flat2 old.K) (flat old.T)) := R3_2.out.below st4 (by omega)
  have R4_3 : Hid (DRow v4 (v3.heap.size + 1) (v4.heap.size) rv  D) := Lib.hid (hr9.wide (by simp) (Nat.le_refl _))
  have d4_0 : w.heap.size < v4.heap.size := by omega
  have e4_0 : w.heap.size ≠ v4.heap.size := by omega
  have d4_1 : w.heap.size + 1 < v4.heap.size := by omega
  have e4_1 : w.heap.size + 1 ≠ v4.heap.size := by omega
  have d4_2 : w.heap.size + 1 + 1 < v4.heap.size := by omega
  have e4_2 : w.heap.size + 1 + 1 ≠ v4.heap.size := by omega
  have d4_3 : v3.heap.size < v4.heap.size := by omega
  have e4_3 : v3.heap.size ≠ v4.heap.size := by omega
  clear d3_0 e3_0 d3_1 e3_1 d3_2 e3_2 c3_0 c3_1 c3_2 c3_3 c3_4 c3_5 c3_6 g3_0 B3 st4 R3_0 R3_1 R3_2 hb4
  obtain ⟨ra, rc, er⟩ := R4_3.out.slice
  subst er
  clear hr9
  go_wp2_with fail
  refine bodyPost_ret (v := .tuple #[.agg #[.slice ra D.length rc], .int .i64 1]) (by simp [results, Try.results29, go_sem, *]) rfl ⟨_, by rw [HC.out.1], ?_, ?_⟩
  · rw [HC.out.2]; exact ((R4_3.out.setCell (.inl (by simp <;> omega)) _).wide (by omega) (by simp [World.setCell] <;> omega))
  · exact (B4.out.setCell (by simp <;> omega) _)
set_option maxRecDepth 100000 in
set_option maxHeartbeats 8000000 in
theorem sins_5 (D : List Ls) (l : Ls) (lo hi lo2 hi2 : Nat) (v u x : Value) (w : World) (hr : DRow w lo hi v D) (hr2 : LRow w lo2 hi2 u x l.K.length l.T.length (flat2 l.K) (flat l.T)) (hh : hi <= w.heap.size) (hh2 : hi2 <= w.heap.size) (hd : dtot D <= 1048576) (hv : dokB D = true) (hl : l.ok = true) (old : Ls) (hf : dfind D l.o = some old) (hz : newL l old = 0) :
    Calls Try.prog 29 #[.agg #[v], .agg #[.int .i64 l.o, .int .i64 l.s, .int .i64 l.g, u, x]] w fun e w' => ∃ rv, e = .returned (.tuple #[.agg #[rv], .int .i64 (icode D l)]) /\ DRow w' w.heap.size w'.heap.size rv (inst D l) /\ Below w.heap.size w w' := by
  have hcode : icode D l = 1 := by rw [icode_ok hv hl, hf]; show (if newL l old = 1 then _ else if newL l old = 0 then _ else _) = _; rw [hz]; first | done | decide
  have HQ := Lib.hid (flv_some hv hf).1
  have HB := Lib.hid (flv_some hv hf).2
  have HC := Lib.hid (And.intro hcode (inst_no (l := l) (D := D) (by rw [hcode]; decide)))
  have HV := Lib.hid hv
  have HL := Lib.hid ((Ls.ok_def l).trans hl)
  have HOK := Lib.hid hl
  have HW : Hid (newN l.o l.s l.g old.o old.s old.g l.K l.T old.K old.T = 0) := Lib.hid hz
  clear hv hl hf hz hcode
  have R0 := Lib.hid hr
  have L0 := Lib.hid hr2
  have hr' := hr
  obtain ⟨a, c, us, xs, bs, ev, X⟩ := hr'
  subst ev
  obtain ⟨u1, e1, u2, e2, q1, q2⟩ := hr2.slice
  subst q1 q2
  obtain ⟨n, hn⟩ : ∃ n, n = D.length := ⟨_, rfl⟩
  rw [<- hn] at R0 ⊢
  have HN := Lib.hid hn
  clear X hr2 hn hr
  go_enter Try.func29, Try.ntmps29
  go_wp2_with fail
  go_at_call 14
  refine (sdbok_any D lo hi _ _ (R0.out.below (B := w.heap.size) (by go_grown) (by omega)) (by first | omega | (simp; omega) | simp)).mono ?_
  rw [HV.out]
  rintro e v1 ⟨rfl, hb1⟩
  have sz1 : w.heap.size + 3 <= v1.heap.size := by have hh := hb1.size; simp at hh; omega
  have st1 : Below w.heap.size w v1 := Below.trans (by go_grown) (hb1.mono (by simp <;> omega))
  have c1_0 : v1.cell? ⟨w.heap.size, 0, none⟩ = some (.slice a n c) := by rw [(bcell hb1).1 _ _ (by simp <;> omega), old_box (by simp <;> omega), old_box (by simp <;> omega)]; first | (rw [new_at (by simp)]; rfl) | simp
  have c1_1 : v1.cell? ⟨w.heap.size + 1, 0, none⟩ = some (.int .i64 l.o) := by rw [(bcell hb1).1 _ _ (by simp <;> omega), old_box (by simp <;> omega)]; first | (rw [new_at (by simp)]; rfl) | simp
  have c1_2 : v1.cell? ⟨w.heap.size + 1, 1, none⟩ = some (.int .i64 l.s) := by rw [(bcell hb1).1 _ _ (by simp <;> omega), old_box (by simp <;> omega)]; first | (rw [new_at (by simp)]; rfl) | simp
  have c1_3 : v1.cell? ⟨w.heap.size + 1, 2, none⟩ = some (.int .i64 l.g) := by rw [(bcell hb1).1 _ _ (by simp <;> omega), old_box (by simp <;> omega)]; first | (rw [new_at (by simp)]; rfl) | simp
  have c1_4 : v1.cell? ⟨w.heap.size + 1, 3, none⟩ = some (.slice u1 l.K.length e1) := by rw [(bcell hb1).1 _ _ (by simp <;> omega), old_box (by simp <;> omega)]; first | (rw [new_at (by simp)]; rfl) | simp
  have c1_5 : v1.cell? ⟨w.heap.size + 1, 4, none⟩ = some (.slice u2 l.T.length e2) := by rw [(bcell hb1).1 _ _ (by simp <;> omega), old_box (by simp <;> omega)]; first | (rw [new_at (by simp)]; rfl) | simp
  have c1_6 : v1.cell? ⟨w.heap.size + 1 + 1, 0, none⟩ = some (.slice none 0 0) := by rw [(bcell hb1).1 _ _ (by simp)]; first | (rw [new_at (by simp)]; rfl) | simp
  have g1_0 : v1.frozen? ⟨w.heap.size + 1 + 1, 0, none⟩ = false := by rw [(bcell hb1).2 _ _ (by simp), new_frz (by simp)]
  have B1 : Hid (Below w.heap.size w v1) := st1
  have R1_0 : Hid (DRow v1 (lo) (hi) (.slice a n c)  D) := R0.out.below st1 (by omega)
  have R1_1 : Hid (LRow v1 (lo2) (hi2) (.slice u1 l.K.length e1) (.slice u2 l.T.length e2) l.K.length l.T.length (flat2 l.K) (flat l.T)) := L0.out.below st1 (by omega)
  have d1_0 : w.heap.size < v1.heap.size := by omega
  have e1_0 : w.heap.size ≠ v1.heap.size := by omega
  have d1_1 : w.heap.size + 1 < v1.heap.size := by omega
  have e1_1 : w.heap.size + 1 ≠ v1.heap.size := by omega
  have d1_2 : w.heap.size + 1 + 1 < v1.heap.size := by omega
  have e1_2 : w.heap.size + 1 + 1 ≠ v1.heap.size := by omega
  clear st1 R0 L0 hb1
  go_wp2_with fail
  go_at_call 48
  refine (slok_any l.o l.s l.g lo2 hi2 lo2 hi2 l.K.length l.T.length _ _ l.K l.T _ rfl rfl R1_1.out.fst R1_1.out.snd (by first | omega | (simp; omega) | simp) (by first | omega | (simp; omega) | simp)).mono ?_
  rw [HL.out]
  rintro e v2 ⟨rfl, hb2⟩
  have sz2 : v1.heap.size <= v2.heap.size := hb2.size
  have st2 : Below v1.heap.size v1 v2 := hb2
  have c2_0 : v2.cell? ⟨w.heap.size, 0, none⟩ = some (.slice a n c) := by rw [(bcell st2).1 _ _ (by omega)]; exact c1_0
  have c2_1 : v2.cell? ⟨w.heap.size + 1, 0, none⟩ = some (.int .i64 l.o) := by rw [(bcell st2).1 _ _ (by omega)]; exact c1_1
  have c2_2 : v2.cell? ⟨w.heap.size + 1, 1, none⟩ = some (.int .i64 l.s) := by rw [(bcell st2).1 _ _ (by omega)]; exact c1_2
  have c2_3 : v2.cell? ⟨w.heap.size + 1, 2, none⟩ = some (.int .i64 l.g) := by rw [(bcell st2).1 _ _ (by omega)]; exact c1_3
  have c2_4 : v2.cell? ⟨w.heap.size + 1, 3, none⟩ = some (.slice u1 l.K.length e1) := by rw [(bcell st2).1 _ _ (by omega)]; exact c1_4
  have c2_5 : v2.cell? ⟨w.heap.size + 1, 4, none⟩ = some (.slice u2 l.T.length e2) := by rw [(bcell st2).1 _ _ (by omega)]; exact c1_5
  have c2_6 : v2.cell? ⟨w.heap.size + 1 + 1, 0, none⟩ = some (.slice none 0 0) := by rw [(bcell st2).1 _ _ (by omega)]; exact c1_6
  have g2_0 : v2.frozen? ⟨w.heap.size + 1 + 1, 0, none⟩ = false := by rw [(bcell st2).2 _ _ (by omega)]; exact g1_0
  have B2 : Hid (Below w.heap.size w v2) := B1.out.trans (st2.mono (by omega))
  have R2_0 : Hid (DRow v2 (lo) (hi) (.slice a n c)  D) := R1_0.out.below st2 (by omega)
  have R2_1 : Hid (LRow v2 (lo2) (hi2) (.slice u1 l.K.length e1) (.slice u2 l.T.length e2) l.K.length l.T.length (flat2 l.K) (flat l.T)) := R1_1.out.below st2 (by omega)
  have d2_0 : w.heap.size < v2.heap.size := by omega
  have e2_0 : w.heap.size ≠ v2.heap.size := by omega
  have d2_1 : w.heap.size + 1 < v2.heap.size := by omega
  have e2_1 : w.heap.size + 1 ≠ v2.heap.size := by omega
  have d2_2 : w.heap.size + 1 + 1 < v2.heap.size := by omega
  have e2_2 : w.heap.size + 1 + 1 ≠ v2.heap.size := by omega
  clear d1_0 e1_0 d1_1 e1_1 d1_2 e1_2 c1_0 c1_1 c1_2 c1_3 c1_4 c1_5 c1_6 g1_0 B1 st2 R1_0 R1_1 hb2
  go_wp2_with fail
  go_at_call 22
  refine (sfind_is D l.o lo hi _ _ R2_0.out (by first | omega | (simp; omega) | simp) HQ.out HB.out).mono ?_
  rintro e v3 ⟨ru, rv, rfl, hr1, hb3⟩
  have sz3 : v2.heap.size <= v3.heap.size := hb3.size
  have st3 : Below v2.heap.size v2 v3 := hb3
  have c3_0 : v3.cell? ⟨w.heap.size, 0, none⟩ = some (.slice a n c) := by rw [(bcell st3).1 _ _ (by omega)]; exact c2_0
  have c3_1 : v3.cell? ⟨w.heap.size + 1, 0, none⟩ = some (.int .i64 l.o) := by rw [(bcell st3).1 _ _ (by omega)]; exact c2_1
  have c3_2 : v3.cell? ⟨w.heap.size + 1, 1, none⟩ = some (.int .i64 l.s) := by rw [(bcell st3).1 _ _ (by omega)]; exact c2_2
  have c3_3 : v3.cell? ⟨w.heap.size + 1, 2, none⟩ = some (.int .i64 l.g) := by rw [(bcell st3).1 _ _ (by omega)]; exact c2_3
  have c3_4 : v3.cell? ⟨w.heap.size + 1, 3, none⟩ = some (.slice u1 l.K.length e1) := by rw [(bcell st3).1 _ _ (by omega)]; exact c2_4
  have c3_5 : v3.cell? ⟨w.heap.size + 1, 4, none⟩ = some (.slice u2 l.T.length e2) := by rw [(bcell st3).1 _ _ (by omega)]; exact c2_5
  have c3_6 : v3.cell? ⟨w.heap.size + 1 + 1, 0, none⟩ = some (.slice none 0 0) := by rw [(bcell st3).1 _ _ (by omega)]; exact c2_6
  have g3_0 : v3.frozen? ⟨w.heap.size + 1 + 1, 0, none⟩ = false := by rw [(bcell st3).2 _ _ (by omega)]; exact g2_0
  have B3 : Hid (Below w.heap.size w v3) := B2.out.trans (st3.mono (by omega))
  have R3_0 : Hid (DRow v3 (lo) (hi) (.slice a n c)  D) := R2_0.out.below st3 (by omega)
  have R3_1 : Hid (LRow v3 (lo2) (hi2) (.slice u1 l.K.length e1) (.slice u2 l.T.length e2) l.K.length l.T.length (flat2 l.K) (flat l.T)) := R2_1.out.below st3 (by omega)
  have R3_2 : Hid (LRow v3 (v2.heap.size) (v3.heap.size) ru rv old.K.length old.T.length (flat2 old.K) (flat old.T)) := Lib.hid hr1
  have d3_0 : w.heap.size < v3.heap.size := by omega
  have e3_0 : w.heap.size ≠ v3.heap.size := by omega
  have d3_1 : w.heap.size + 1 < v3.heap.size := by omega
  have e3_1 : w.heap.size + 1 ≠ v3.heap.size := by omega
  have d3_2 : w.heap.size + 1 + 1 < v3.heap.size := by omega
  have e3_2 : w.heap.size + 1 + 1 ≠ v3.heap.size := by omega
  clear d2_0 e2_0 d2_1 e2_1 d2_2 e2_2 c2_0 c2_1 c2_2 c2_3 c2_4 c2_5 c2_6 g2_0 B2 st3 R2_0 R2_1 hb3
  obtain ⟨oa, oc, pa, pc, rfl, rfl⟩ := R3_2.out.slice
  clear hr1
  go_wp2_with fail
  go_at_call 70
  refine (snew_any l.o l.s l.g old.o old.s old.g lo2 hi2 l.K.length l.T.length _ _ old.K.length old.T.length _ _ _ _ l.K l.T old.K old.T _ rfl rfl rfl rfl (R3_1.out.below (B := v3.heap.size) (by go_grown) (by omega)) (R3_2.out.below (B := v3.heap.size) (by go_grown) (by omega)) (by first | omega | (simp; omega) | simp) (by first | omega | (simp; omega) | simp)).mono ?_
  rw [HW.out]
  rintro e v4 ⟨rfl, hb4⟩
  have sz4 : v3.heap.size + 1 <= v4.heap.size := by have hh := hb4.size; simp at hh; omega
  have st4 : Below v3.heap.size v3 v4 := Below.trans (by go_grown) (hb4.mono (by simp))
  have c4_0 : v4.cell? ⟨w.heap.size, 0, none⟩ = some (.slice a n c) := by rw [(bcell st4).1 _ _ (by omega)]; exact c3_0
  have c4_1 : v4.cell? ⟨w.heap.size + 1, 0, none⟩ = some (.int .i64 l.o) := by rw [(bcell st4).1 _ _ (by omega)]; exact c3_1
  have c4_2 : v4.cell? ⟨w.heap.size + 1, 1, none⟩ = some (.int .i64 l.s) := by rw [(bcell st4).1 _ _ (by omega)]; exact c3_2
  have c4_3 : v4.cell? ⟨w.heap.size + 1, 2, none⟩ = some (.int .i64 l.g) := by rw [(bcell st4).1 _ _ (by omega)]; exact c3_3
  have c4_4 : v4.cell? ⟨w.heap.size + 1, 3, none⟩ = some (.slice u1 l.K.length e1) := by rw [(bcell st4).1 _ _ (by omega)]; exact c3_4
  have c4_5 : v4.cell? ⟨w.heap.size + 1, 4, none⟩ = some (.slice u2 l.T.length e2) := by rw [(bcell st4).1 _ _ (by omega)]; exact c3_5
  have c4_6 : v4.cell? ⟨w.heap.size + 1 + 1, 0, none⟩ = some (.slice none 0 0) := by rw [(bcell st4).1 _ _ (by omega)]; exact c3_6
  have c4_7 : v4.cell? ⟨v3.heap.size, 0, none⟩ = some (.int .i64 old.o) := by rw [(bcell hb4).1 _ _ (by simp)]; first | (rw [new_at (by simp)]; rfl) | simp
  have c4_8 : v4.cell? ⟨v3.heap.size, 1, none⟩ = some (.int .i64 old.s) := by rw [(bcell hb4).1 _ _ (by simp)]; first | (rw [new_at (by simp)]; rfl) | simp
  have c4_9 : v4.cell? ⟨v3.heap.size, 2, none⟩ = some (.int .i64 old.g) := by rw [(bcell hb4).1 _ _ (by simp)]; first | (rw [new_at (by simp)]; rfl) | simp
  have c4_10 : v4.cell? ⟨v3.heap.size, 3, none⟩ = some (.slice oa old.K.length oc) := by rw [(bcell hb4).1 _ _ (by simp)]; first | (rw [new_at (by simp)]; rfl) | simp
  have c4_11 : v4.cell? ⟨v3.heap.size, 4, none⟩ = some (.slice pa old.T.length pc) := by rw [(bcell hb4).1 _ _ (by simp)]; first | (rw [new_at (by simp)]; rfl) | simp
  have g4_0 : v4.frozen? ⟨w.heap.size + 1 + 1, 0, none⟩ = false := by rw [(bcell st4).2 _ _ (by omega)]; exact g3_0
  have B4 : Hid (Below w.heap.size w v4) := B3.out.trans (st4.mono (by omega))
  have R4_0 : Hid (DRow v4 (lo) (hi) (.slice a n c)  D) := R3_0.out.below st4 (by omega)
  have R4_1 : Hid (LRow v4 (lo2) (hi2) (.slice u1 l.K.length e1) (.slice u2 l.T.length e2) l.K.length l.T.length (flat2 l.K) (flat l.T)) := R3_1.out.below st4 (by omega)
  have R4_2 : Hid (LRow v4 (v2.heap.size) (v3.heap.size) (.slice oa old.K.length oc) (.slice pa old.T.length pc) old.K.length old.T.length (flat2 old.K) (flat old.T)) := R3_2.out.below st4 (by omega)
  have d4_0 : w.heap.size < v4.heap.size := by omega
  have e4_0 : w.heap.size ≠ v4.heap.size := by omega
  have d4_1 : w.heap.size + 1 < v4.heap.size := by omega
  have e4_1 : w.heap.size + 1 ≠ v4.heap.size := by omega
  have d4_2 : w.heap.size + 1 + 1 < v4.heap.size := by omega
  have e4_2 : w.heap.size + 1 + 1 ≠ v4.heap.size := by omega
  have d4_3 : v3.heap.size < v4.heap.size := by omega
  have e4_3 : v3.heap.size ≠ v4.heap.size := by omega
  clear d3_0 e3_0 d3_1 e3_1 d3_2 e3_2 c3_0 c3_1 c3_2 c3_3 c3_4 c3_5 c3_6 g3_0 B3 st4 R3_0 R3_1 R3_2 hb4
  go_wp2_with fail
  go_at_call 69
  refine (sdcopy_any D lo hi _ _ R4_0.out (by first | omega | (simp; omega) | simp) hd).mono ?_
  rintro e v5 ⟨rv, rfl, hr9, hb5⟩
  have sz5 : v4.heap.size <= v5.heap.size := hb5.size
  have st5 : Below v4.heap.size v4 v5 := hb5
  have c5_0 : v5.cell? ⟨w.heap.size, 0, none⟩ = some (.slice a n c) := by rw [(bcell st5).1 _ _ (by omega)]; exact c4_0
  have c5_1 : v5.cell? ⟨w.heap.size + 1, 0, none⟩ = some (.int .i64 l.o) := by rw [(bcell st5).1 _ _ (by omega)]; exact c4_1
  have c5_2 : v5.cell? ⟨w.heap.size + 1, 1, none⟩ = some (.int .i64 l.s) := by rw [(bcell st5).1 _ _ (by omega)]; exact c4_2
  have c5_3 : v5.cell? ⟨w.heap.size + 1, 2, none⟩ = some (.int .i64 l.g) := by rw [(bcell st5).1 _ _ (by omega)]; exact c4_3
  have c5_4 : v5.cell? ⟨w.heap.size + 1, 3, none⟩ = some (.slice u1 l.K.length e1) := by rw [(bcell st5).1 _ _ (by omega)]; exact c4_4
  have c5_5 : v5.cell? ⟨w.heap.size + 1, 4, none⟩ = some (.slice u2 l.T.length e2) := by rw [(bcell st5).1 _ _ (by omega)]; exact c4_5
  have c5_6 : v5.cell? ⟨w.heap.size + 1 + 1, 0, none⟩ = some (.slice none 0 0) := by rw [(bcell st5).1 _ _ (by omega)]; exact c4_6
  have c5_7 : v5.cell? ⟨v3.heap.size, 0, none⟩ = some (.int .i64 old.o) := by rw [(bcell st5).1 _ _ (by omega)]; exact c4_7
  have c5_8 : v5.cell? ⟨v3.heap.size, 1, none⟩ = some (.int .i64 old.s) := by rw [(bcell st5).1 _ _ (by omega)]; exact c4_8
  have c5_9 : v5.cell? ⟨v3.heap.size, 2, none⟩ = some (.int .i64 old.g) := by rw [(bcell st5).1 _ _ (by omega)]; exact c4_9
  have c5_10 : v5.cell? ⟨v3.heap.size, 3, none⟩ = some (.slice oa old.K.length oc) := by rw [(bcell st5).1 _ _ (by omega)]; exact c4_10
  have c5_11 : v5.cell? ⟨v3.heap.size, 4, none⟩ = some (.slice pa old.T.length pc) := by rw [(bcell st5).1 _ _ (by omega)]; exact c4_11
  have g5_0 : v5.frozen? ⟨w.heap.size + 1 + 1, 0, none⟩ = false := by rw [(bcell st5).2 _ _ (by omega)]; exact g4_0
  have B5 : Hid (Below w.heap.size w v5) := B4.out.trans (st5.mono (by omega))
  have R5_0 : Hid (DRow v5 (lo) (hi) (.slice a n c)  D) := R4_0.out.below st5 (by omega)
  have R5_1 : Hid (LRow v5 (lo2) (hi2) (.slice u1 l.K.length e1) (.slice u2 l.T.length e2) l.K.length l.T.length (flat2 l.K) (flat l.T)) := R4_1.out.below st5 (by omega)
  have R5_2 : Hid (LRow v5 (v2.heap.size) (v3.heap.size) (.slice oa old.K.length oc) (.slice pa old.T.length pc) old.K.length old.T.length (flat2 old.K) (flat old.T)) := R4_2.out.below st5 (by omega)
  have R5_3 : Hid (DRow v5 (v4.heap.size) (v5.heap.size) rv  D) := Lib.hid hr9
  have d5_0 : w.heap.size < v5.heap.size := by omega
  have e5_0 : w.heap.size ≠ v5.heap.size := by omega
  have d5_1 : w.heap.size + 1 < v5.heap.size := by omega
  have e5_1 : w.heap.size + 1 ≠ v5.heap.size := by omega
  have d5_2 : w.heap.size + 1 + 1 < v5.heap.size := by omega
  have e5_2 : w.heap.size + 1 + 1 ≠ v5.heap.size := by omega
  have d5_3 : v3.heap.size < v5.heap.size := by omega
  have e5_3 : v3.heap.size ≠ v5.heap.size := by omega
  clear d4_0 e4_0 d4_1 e4_1 d4_2 e4_2 d4_3 e4_3 c4_0 c4_1 c4_2 c4_3 c4_4 c4_5 c4_6 c4_7 c4_8 c4_9 c4_10 c4_11 g4_0 B4 st5 R4_0 R4_1 R4_2 hb5
  obtain ⟨ra, rc, er⟩ := R5_3.out.slice
  subst er
  clear hr9
  go_wp2_with fail
  refine bodyPost_ret (v := .tuple #[.agg #[.slice ra D.length rc], .int .i64 1]) (by simp [results, Try.results29, go_sem, *]) rfl ⟨_, by rw [HC.out.1], ?_, ?_⟩
  · rw [HC.out.2]; exact ((R5_3.out.setCell (.inl (by simp <;> omega)) _).wide (by omega) (by simp [World.setCell] <;> omega))
  · exact (B5.out.setCell (by simp <;> omega) _)
set_option maxRecDepth 100000 in
set_option maxHeartbeats 8000000 in
theorem sins_6 (D : List Ls) (l : Ls) (lo hi lo2 hi2 : Nat) (v u x : Value) (w : World) (hr : DRow w lo hi v D) (hr2 : LRow w lo2 hi2 u x l.K.length l.T.length (flat2 l.K) (flat l.T)) (hh : hi <= w.heap.size) (hh2 : hi2 <= w.heap.size) (hd : dtot D <= 1048576) (hv : dokB D = true) (hl : l.ok = true) (old : Ls) (hf : dfind D l.o = some old) (hz : newL l old = (-1)) :
    Calls Try.prog 29 #[.agg #[v], .agg #[.int .i64 l.o, .int .i64 l.s, .int .i64 l.g, u, x]] w fun e w' => ∃ rv, e = .returned (.tuple #[.agg #[rv], .int .i64 (icode D l)]) /\ DRow w' w.heap.size w'.heap.size rv (inst D l) /\ Below w.heap.size w w' := by
  have hcode : icode D l = 2 := by rw [icode_ok hv hl, hf]; show (if newL l old = 1 then _ else if newL l old = 0 then _ else _) = _; rw [hz]; first | done | decide
  have HQ := Lib.hid (flv_some hv hf).1
  have HB := Lib.hid (flv_some hv hf).2
  have HC := Lib.hid (And.intro hcode (inst_no (l := l) (D := D) (by rw [hcode]; decide)))
  have HV := Lib.hid hv
  have HL := Lib.hid ((Ls.ok_def l).trans hl)
  have HOK := Lib.hid hl
  have HW : Hid (newN l.o l.s l.g old.o old.s old.g l.K l.T old.K old.T = (-1)) := Lib.hid hz
  clear hv hl hf hz hcode
  have R0 := Lib.hid hr
  have L0 := Lib.hid hr2
  have hr' := hr
  obtain ⟨a, c, us, xs, bs, ev, X⟩ := hr'
  subst ev
  obtain ⟨u1, e1, u2, e2, q1, q2⟩ := hr2.slice
  subst q1 q2
  obtain ⟨n, hn⟩ : ∃ n, n = D.length := ⟨_, rfl⟩
  rw [<- hn] at R0 ⊢
  have HN := Lib.hid hn
  clear X hr2 hn hr
  go_enter Try.func29, Try.ntmps29
  go_wp2_with fail
  go_at_call 14
  refine (sdbok_any D lo hi _ _ (R0.out.below (B := w.heap.size) (by go_grown) (by omega)) (by first | omega | (simp; omega) | simp)).mono ?_
  rw [HV.out]
  rintro e v1 ⟨rfl, hb1⟩
  have sz1 : w.heap.size + 3 <= v1.heap.size := by have hh := hb1.size; simp at hh; omega
  have st1 : Below w.heap.size w v1 := Below.trans (by go_grown) (hb1.mono (by simp <;> omega))
  have c1_0 : v1.cell? ⟨w.heap.size, 0, none⟩ = some (.slice a n c) := by rw [(bcell hb1).1 _ _ (by simp <;> omega), old_box (by simp <;> omega), old_box (by simp <;> omega)]; first | (rw [new_at (by simp)]; rfl) | simp
  have c1_1 : v1.cell? ⟨w.heap.size + 1, 0, none⟩ = some (.int .i64 l.o) := by rw [(bcell hb1).1 _ _ (by simp <;> omega), old_box (by simp <;> omega)]; first | (rw [new_at (by simp)]; rfl) | simp
  have c1_2 : v1.cell? ⟨w.heap.size + 1, 1, none⟩ = some (.int .i64 l.s) := by rw [(bcell hb1).1 _ _ (by simp <;> omega), old_box (by simp <;> omega)]; first | (rw [new_at (by simp)]; rfl) | simp
  have c1_3 : v1.cell? ⟨w.heap.size + 1, 2, none⟩ = some (.int .i64 l.g) := by rw [(bcell hb1).1 _ _ (by simp <;> omega), old_box (by simp <;> omega)]; first | (rw [new_at (by simp)]; rfl) | simp
  have c1_4 : v1.cell? ⟨w.heap.size + 1, 3, none⟩ = some (.slice u1 l.K.length e1) := by rw [(bcell hb1).1 _ _ (by simp <;> omega), old_box (by simp <;> omega)]; first | (rw [new_at (by simp)]; rfl) | simp
  have c1_5 : v1.cell? ⟨w.heap.size + 1, 4, none⟩ = some (.slice u2 l.T.length e2) := by rw [(bcell hb1).1 _ _ (by simp <;> omega), old_box (by simp <;> omega)]; first | (rw [new_at (by simp)]; rfl) | simp
  have c1_6 : v1.cell? ⟨w.heap.size + 1 + 1, 0, none⟩ = some (.slice none 0 0) := by rw [(bcell hb1).1 _ _ (by simp)]; first | (rw [new_at (by simp)]; rfl) | simp
  have g1_0 : v1.frozen? ⟨w.heap.size + 1 + 1, 0, none⟩ = false := by rw [(bcell hb1).2 _ _ (by simp), new_frz (by simp)]
  have B1 : Hid (Below w.heap.size w v1) := st1
  have R1_0 : Hid (DRow v1 (lo) (hi) (.slice a n c)  D) := R0.out.below st1 (by omega)
  have R1_1 : Hid (LRow v1 (lo2) (hi2) (.slice u1 l.K.length e1) (.slice u2 l.T.length e2) l.K.length l.T.length (flat2 l.K) (flat l.T)) := L0.out.below st1 (by omega)
  have d1_0 : w.heap.size < v1.heap.size := by omega
  have e1_0 : w.heap.size ≠ v1.heap.size := by omega
  have d1_1 : w.heap.size + 1 < v1.heap.size := by omega
  have e1_1 : w.heap.size + 1 ≠ v1.heap.size := by omega
  have d1_2 : w.heap.size + 1 + 1 < v1.heap.size := by omega
  have e1_2 : w.heap.size + 1 + 1 ≠ v1.heap.size := by omega
  clear st1 R0 L0 hb1
  go_wp2_with fail
  go_at_call 48
  refine (slok_any l.o l.s l.g lo2 hi2 lo2 hi2 l.K.length l.T.length _ _ l.K l.T _ rfl rfl R1_1.out.fst R1_1.out.snd (by first | omega | (simp; omega) | simp) (by first | omega | (simp; omega) | simp)).mono ?_
  rw [HL.out]
  rintro e v2 ⟨rfl, hb2⟩
  have sz2 : v1.heap.size <= v2.heap.size := hb2.size
  have st2 : Below v1.heap.size v1 v2 := hb2
  have c2_0 : v2.cell? ⟨w.heap.size, 0, none⟩ = some (.slice a n c) := by rw [(bcell st2).1 _ _ (by omega)]; exact c1_0
  have c2_1 : v2.cell? ⟨w.heap.size + 1, 0, none⟩ = some (.int .i64 l.o) := by rw [(bcell st2).1 _ _ (by omega)]; exact c1_1
  have c2_2 : v2.cell? ⟨w.heap.size + 1, 1, none⟩ = some (.int .i64 l.s) := by rw [(bcell st2).1 _ _ (by omega)]; exact c1_2
  have c2_3 : v2.cell? ⟨w.heap.size + 1, 2, none⟩ = some (.int .i64 l.g) := by rw [(bcell st2).1 _ _ (by omega)]; exact c1_3
  have c2_4 : v2.cell? ⟨w.heap.size + 1, 3, none⟩ = some (.slice u1 l.K.length e1) := by rw [(bcell st2).1 _ _ (by omega)]; exact c1_4
  have c2_5 : v2.cell? ⟨w.heap.size + 1, 4, none⟩ = some (.slice u2 l.T.length e2) := by rw [(bcell st2).1 _ _ (by omega)]; exact c1_5
  have c2_6 : v2.cell? ⟨w.heap.size + 1 + 1, 0, none⟩ = some (.slice none 0 0) := by rw [(bcell st2).1 _ _ (by omega)]; exact c1_6
  have g2_0 : v2.frozen? ⟨w.heap.size + 1 + 1, 0, none⟩ = false := by rw [(bcell st2).2 _ _ (by omega)]; exact g1_0
  have B2 : Hid (Below w.heap.size w v2) := B1.out.trans (st2.mono (by omega))
  have R2_0 : Hid (DRow v2 (lo) (hi) (.slice a n c)  D) := R1_0.out.below st2 (by omega)
  have R2_1 : Hid (LRow v2 (lo2) (hi2) (.slice u1 l.K.length e1) (.slice u2 l.T.length e2) l.K.length l.T.length (flat2 l.K) (flat l.T)) := R1_1.out.below st2 (by omega)
  have d2_0 : w.heap.size < v2.heap.size := by omega
  have e2_0 : w.heap.size ≠ v2.heap.size := by omega
  have d2_1 : w.heap.size + 1 < v2.heap.size := by omega
  have e2_1 : w.heap.size + 1 ≠ v2.heap.size := by omega
  have d2_2 : w.heap.size + 1 + 1 < v2.heap.size := by omega
  have e2_2 : w.heap.size + 1 + 1 ≠ v2.heap.size := by omega
  clear d1_0 e1_0 d1_1 e1_1 d1_2 e1_2 c1_0 c1_1 c1_2 c1_3 c1_4 c1_5 c1_6 g1_0 B1 st2 R1_0 R1_1 hb2
  go_wp2_with fail
  go_at_call 22
  refine (sfind_is D l.o lo hi _ _ R2_0.out (by first | omega | (simp; omega) | simp) HQ.out HB.out).mono ?_
  rintro e v3 ⟨ru, rv, rfl, hr1, hb3⟩
  have sz3 : v2.heap.size <= v3.heap.size := hb3.size
  have st3 : Below v2.heap.size v2 v3 := hb3
  have c3_0 : v3.cell? ⟨w.heap.size, 0, none⟩ = some (.slice a n c) := by rw [(bcell st3).1 _ _ (by omega)]; exact c2_0
  have c3_1 : v3.cell? ⟨w.heap.size + 1, 0, none⟩ = some (.int .i64 l.o) := by rw [(bcell st3).1 _ _ (by omega)]; exact c2_1
  have c3_2 : v3.cell? ⟨w.heap.size + 1, 1, none⟩ = some (.int .i64 l.s) := by rw [(bcell st3).1 _ _ (by omega)]; exact c2_2
  have c3_3 : v3.cell? ⟨w.heap.size + 1, 2, none⟩ = some (.int .i64 l.g) := by rw [(bcell st3).1 _ _ (by omega)]; exact c2_3
  have c3_4 : v3.cell? ⟨w.heap.size + 1, 3, none⟩ = some (.slice u1 l.K.length e1) := by rw [(bcell st3).1 _ _ (by omega)]; exact c2_4
  have c3_5 : v3.cell? ⟨w.heap.size + 1, 4, none⟩ = some (.slice u2 l.T.length e2) := by rw [(bcell st3).1 _ _ (by omega)]; exact c2_5
  have c3_6 : v3.cell? ⟨w.heap.size + 1 + 1, 0, none⟩ = some (.slice none 0 0) := by rw [(bcell st3).1 _ _ (by omega)]; exact c2_6
  have g3_0 : v3.frozen? ⟨w.heap.size + 1 + 1, 0, none⟩ = false := by rw [(bcell st3).2 _ _ (by omega)]; exact g2_0
  have B3 : Hid (Below w.heap.size w v3) := B2.out.trans (st3.mono (by omega))
  have R3_0 : Hid (DRow v3 (lo) (hi) (.slice a n c)  D) := R2_0.out.below st3 (by omega)
  have R3_1 : Hid (LRow v3 (lo2) (hi2) (.slice u1 l.K.length e1) (.slice u2 l.T.length e2) l.K.length l.T.length (flat2 l.K) (flat l.T)) := R2_1.out.below st3 (by omega)
  have R3_2 : Hid (LRow v3 (v2.heap.size) (v3.heap.size) ru rv old.K.length old.T.length (flat2 old.K) (flat old.T)) := Lib.hid hr1
  have d3_0 : w.heap.size < v3.heap.size := by omega
  have e3_0 : w.heap.size ≠ v3.heap.size := by omega
  have d3_1 : w.heap.size + 1 < v3.heap.size := by omega
  have e3_1 : w.heap.size + 1 ≠ v3.heap.size := by omega
  have d3_2 : w.heap.size + 1 + 1 < v3.heap.size := by omega
  have e3_2 : w.heap.size + 1 + 1 ≠ v3.heap.size := by omega
  clear d2_0 e2_0 d2_1 e2_1 d2_2 e2_2 c2_0 c2_1 c2_2 c2_3 c2_4 c2_5 c2_6 g2_0 B2 st3 R2_0 R2_1 hb3
  obtain ⟨oa, oc, pa, pc, rfl, rfl⟩ := R3_2.out.slice
  clear hr1
  go_wp2_with fail
  go_at_call 70
  refine (snew_any l.o l.s l.g old.o old.s old.g lo2 hi2 l.K.length l.T.length _ _ old.K.length old.T.length _ _ _ _ l.K l.T old.K old.T _ rfl rfl rfl rfl (R3_1.out.below (B := v3.heap.size) (by go_grown) (by omega)) (R3_2.out.below (B := v3.heap.size) (by go_grown) (by omega)) (by first | omega | (simp; omega) | simp) (by first | omega | (simp; omega) | simp)).mono ?_
  rw [HW.out]
  rintro e v4 ⟨rfl, hb4⟩
  have sz4 : v3.heap.size + 1 <= v4.heap.size := by have hh := hb4.size; simp at hh; omega
  have st4 : Below v3.heap.size v3 v4 := Below.trans (by go_grown) (hb4.mono (by simp))
  have c4_0 : v4.cell? ⟨w.heap.size, 0, none⟩ = some (.slice a n c) := by rw [(bcell st4).1 _ _ (by omega)]; exact c3_0
  have c4_1 : v4.cell? ⟨w.heap.size + 1, 0, none⟩ = some (.int .i64 l.o) := by rw [(bcell st4).1 _ _ (by omega)]; exact c3_1
  have c4_2 : v4.cell? ⟨w.heap.size + 1, 1, none⟩ = some (.int .i64 l.s) := by rw [(bcell st4).1 _ _ (by omega)]; exact c3_2
  have c4_3 : v4.cell? ⟨w.heap.size + 1, 2, none⟩ = some (.int .i64 l.g) := by rw [(bcell st4).1 _ _ (by omega)]; exact c3_3
  have c4_4 : v4.cell? ⟨w.heap.size + 1, 3, none⟩ = some (.slice u1 l.K.length e1) := by rw [(bcell st4).1 _ _ (by omega)]; exact c3_4
  have c4_5 : v4.cell? ⟨w.heap.size + 1, 4, none⟩ = some (.slice u2 l.T.length e2) := by rw [(bcell st4).1 _ _ (by omega)]; exact c3_5
  have c4_6 : v4.cell? ⟨w.heap.size + 1 + 1, 0, none⟩ = some (.slice none 0 0) := by rw [(bcell st4).1 _ _ (by omega)]; exact c3_6
  have c4_7 : v4.cell? ⟨v3.heap.size, 0, none⟩ = some (.int .i64 old.o) := by rw [(bcell hb4).1 _ _ (by simp)]; first | (rw [new_at (by simp)]; rfl) | simp
  have c4_8 : v4.cell? ⟨v3.heap.size, 1, none⟩ = some (.int .i64 old.s) := by rw [(bcell hb4).1 _ _ (by simp)]; first | (rw [new_at (by simp)]; rfl) | simp
  have c4_9 : v4.cell? ⟨v3.heap.size, 2, none⟩ = some (.int .i64 old.g) := by rw [(bcell hb4).1 _ _ (by simp)]; first | (rw [new_at (by simp)]; rfl) | simp
  have c4_10 : v4.cell? ⟨v3.heap.size, 3, none⟩ = some (.slice oa old.K.length oc) := by rw [(bcell hb4).1 _ _ (by simp)]; first | (rw [new_at (by simp)]; rfl) | simp
  have c4_11 : v4.cell? ⟨v3.heap.size, 4, none⟩ = some (.slice pa old.T.length pc) := by rw [(bcell hb4).1 _ _ (by simp)]; first | (rw [new_at (by simp)]; rfl) | simp
  have g4_0 : v4.frozen? ⟨w.heap.size + 1 + 1, 0, none⟩ = false := by rw [(bcell st4).2 _ _ (by omega)]; exact g3_0
  have B4 : Hid (Below w.heap.size w v4) := B3.out.trans (st4.mono (by omega))
  have R4_0 : Hid (DRow v4 (lo) (hi) (.slice a n c)  D) := R3_0.out.below st4 (by omega)
  have R4_1 : Hid (LRow v4 (lo2) (hi2) (.slice u1 l.K.length e1) (.slice u2 l.T.length e2) l.K.length l.T.length (flat2 l.K) (flat l.T)) := R3_1.out.below st4 (by omega)
  have R4_2 : Hid (LRow v4 (v2.heap.size) (v3.heap.size) (.slice oa old.K.length oc) (.slice pa old.T.length pc) old.K.length old.T.length (flat2 old.K) (flat old.T)) := R3_2.out.below st4 (by omega)
  have d4_0 : w.heap.size < v4.heap.size := by omega
  have e4_0 : w.heap.size ≠ v4.heap.size := by omega
  have d4_1 : w.heap.size + 1 < v4.heap.size := by omega
  have e4_1 : w.heap.size + 1 ≠ v4.heap.size := by omega
  have d4_2 : w.heap.size + 1 + 1 < v4.heap.size := by omega
  have e4_2 : w.heap.size + 1 + 1 ≠ v4.heap.size := by omega
  have d4_3 : v3.heap.size < v4.heap.size := by omega
  have e4_3 : v3.heap.size ≠ v4.heap.size := by omega
  clear d3_0 e3_0 d3_1 e3_1 d3_2 e3_2 c3_0 c3_1 c3_2 c3_3 c3_4 c3_5 c3_6 g3_0 B3 st4 R3_0 R3_1 R3_2 hb4
  go_wp2_with fail
  go_at_call 69
  refine (sdcopy_any D lo hi _ _ R4_0.out (by first | omega | (simp; omega) | simp) hd).mono ?_
  rintro e v5 ⟨rv, rfl, hr9, hb5⟩
  have sz5 : v4.heap.size <= v5.heap.size := hb5.size
  have st5 : Below v4.heap.size v4 v5 := hb5
  have c5_0 : v5.cell? ⟨w.heap.size, 0, none⟩ = some (.slice a n c) := by rw [(bcell st5).1 _ _ (by omega)]; exact c4_0
  have c5_1 : v5.cell? ⟨w.heap.size + 1, 0, none⟩ = some (.int .i64 l.o) := by rw [(bcell st5).1 _ _ (by omega)]; exact c4_1
  have c5_2 : v5.cell? ⟨w.heap.size + 1, 1, none⟩ = some (.int .i64 l.s) := by rw [(bcell st5).1 _ _ (by omega)]; exact c4_2
  have c5_3 : v5.cell? ⟨w.heap.size + 1, 2, none⟩ = some (.int .i64 l.g) := by rw [(bcell st5).1 _ _ (by omega)]; exact c4_3
  have c5_4 : v5.cell? ⟨w.heap.size + 1, 3, none⟩ = some (.slice u1 l.K.length e1) := by rw [(bcell st5).1 _ _ (by omega)]; exact c4_4
  have c5_5 : v5.cell? ⟨w.heap.size + 1, 4, none⟩ = some (.slice u2 l.T.length e2) := by rw [(bcell st5).1 _ _ (by omega)]; exact c4_5
  have c5_6 : v5.cell? ⟨w.heap.size + 1 + 1, 0, none⟩ = some (.slice none 0 0) := by rw [(bcell st5).1 _ _ (by omega)]; exact c4_6
  have c5_7 : v5.cell? ⟨v3.heap.size, 0, none⟩ = some (.int .i64 old.o) := by rw [(bcell st5).1 _ _ (by omega)]; exact c4_7
  have c5_8 : v5.cell? ⟨v3.heap.size, 1, none⟩ = some (.int .i64 old.s) := by rw [(bcell st5).1 _ _ (by omega)]; exact c4_8
  have c5_9 : v5.cell? ⟨v3.heap.size, 2, none⟩ = some (.int .i64 old.g) := by rw [(bcell st5).1 _ _ (by omega)]; exact c4_9
  have c5_10 : v5.cell? ⟨v3.heap.size, 3, none⟩ = some (.slice oa old.K.length oc) := by rw [(bcell st5).1 _ _ (by omega)]; exact c4_10
  have c5_11 : v5.cell? ⟨v3.heap.size, 4, none⟩ = some (.slice pa old.T.length pc) := by rw [(bcell st5).1 _ _ (by omega)]; exact c4_11
  have g5_0 : v5.frozen? ⟨w.heap.size + 1 + 1, 0, none⟩ = false := by rw [(bcell st5).2 _ _ (by omega)]; exact g4_0
  have B5 : Hid (Below w.heap.size w v5) := B4.out.trans (st5.mono (by omega))
  have R5_0 : Hid (DRow v5 (lo) (hi) (.slice a n c)  D) := R4_0.out.below st5 (by omega)
  have R5_1 : Hid (LRow v5 (lo2) (hi2) (.slice u1 l.K.length e1) (.slice u2 l.T.length e2) l.K.length l.T.length (flat2 l.K) (flat l.T)) := R4_1.out.below st5 (by omega)
  have R5_2 : Hid (LRow v5 (v2.heap.size) (v3.heap.size) (.slice oa old.K.length oc) (.slice pa old.T.length pc) old.K.length old.T.length (flat2 old.K) (flat old.T)) := R4_2.out.below st5 (by omega)
  have R5_3 : Hid (DRow v5 (v4.heap.size) (v5.heap.size) rv  D) := Lib.hid hr9
  have d5_0 : w.heap.size < v5.heap.size := by omega
  have e5_0 : w.heap.size ≠ v5.heap.size := by omega
  have d5_1 : w.heap.size + 1 < v5.heap.size := by omega
  have e5_1 : w.heap.size + 1 ≠ v5.heap.size := by omega
  have d5_2 : w.heap.size + 1 + 1 < v5.heap.size := by omega
  have e5_2 : w.heap.size + 1 + 1 ≠ v5.heap.size := by omega
  have d5_3 : v3.heap.size < v5.heap.size := by omega
  have e5_3 : v3.heap.size ≠ v5.heap.size := by omega
  clear d4_0 e4_0 d4_1 e4_1 d4_2 e4_2 d4_3 e4_3 c4_0 c4_1 c4_2 c4_3 c4_4 c4_5 c4_6 c4_7 c4_8 c4_9 c4_10 c4_11 g4_0 B4 st5 R4_0 R4_1 R4_2 hb5
  obtain ⟨ra, rc, er⟩ := R5_3.out.slice
  subst er
  clear hr9
  go_wp2_with fail
  refine bodyPost_ret (v := .tuple #[.agg #[.slice ra D.length rc], .int .i64 2]) (by simp [results, Try.results29, go_sem, *]) rfl ⟨_, by rw [HC.out.1], ?_, ?_⟩
  · rw [HC.out.2]; exact ((R5_3.out.setCell (.inl (by simp <;> omega)) _).wide (by omega) (by simp [World.setCell] <;> omega))
  · exact (B5.out.setCell (by simp <;> omega) _)
def SinsPost (D : List Ls) (l : Ls) (w : World) (e : Ending) (w' : World) : Prop := ∃ rv, e = .returned (.tuple #[.agg #[rv], .int .i64 (icode D l)]) /\ DRow w' w.heap.size w'.heap.size rv (inst D l) /\ Below w.heap.size w w'
theorem sinsP {D : List Ls} {l : Ls} {w w' : World} {e : Ending} (rv : Value) (h1 : e = .returned (.tuple #[.agg #[rv], .int .i64 (icode D l)])) (h2 : DRow w' w.heap.size w'.heap.size rv (inst D l)) (h3 : Below w.heap.size w w') : SinsPost D l w e w' := ⟨rv, h1, h2, h3⟩
theorem OutE.drewN {w3 wr : World} {X : Nat} {rv : Value} {E : List Ent} (h : OutE w3 wr X rv E) (q : Nat) : OutE w3 (wr.drewN q) X rv E :=
  ⟨⟨h.below.os, h.below.tape, h.below.output, h.below.size, h.below.block⟩, h.lo, h.frz, h.cell, h.own, h.row, h.apart, h.far⟩
theorem iloop_i {l p : Ls} {D : List Ls} {k : Nat} (h : D[k]? = some p) (h1 : (iloop l (D.take k)).2 = true ∨ ¬ l.o <= p.o) (h2 : p.o = l.o) : (iloop l (D.take (k + 1))).1 = (iloop l (D.take k)).1 /\ (iloop l (D.take (k + 1))).2 = (iloop l (D.take k)).2 := by
  rw [iloop_snoc h]; unfold istep
  have q : ¬ ((iloop l (D.take k)).2 = false /\ l.o <= p.o) := fun q => by
    rcases h1 with h1 | h1
    · rw [h1] at q; cases q.1
    · exact h1 q.2
  rw [if_pos h2, if_neg q]; exact ⟨rfl, rfl⟩
theorem iloop_ii {l p : Ls} {D : List Ls} {k : Nat} (h : D[k]? = some p) (h1 : (iloop l (D.take k)).2 = true ∨ ¬ l.o <= p.o) (h2 : ¬ p.o = l.o) : (iloop l (D.take (k + 1))).1 = (iloop l (D.take k)).1 ++ [p] /\ (iloop l (D.take (k + 1))).2 = (iloop l (D.take k)).2 := by
  rw [iloop_snoc h]; unfold istep
  have q : ¬ ((iloop l (D.take k)).2 = false /\ l.o <= p.o) := fun q => by
    rcases h1 with h1 | h1
    · rw [h1] at q; cases q.1
    · exact h1 q.2
  rw [if_neg h2, if_neg q]; exact ⟨rfl, rfl⟩
theorem iloop_iii {l p : Ls} {D : List Ls} {k : Nat} (h : D[k]? = some p) (h1 : (iloop l (D.take k)).2 = false) (h3 : l.o <= p.o) (h2 : p.o = l.o) : (iloop l (D.take (k + 1))).1 = (iloop l (D.take k)).1 ++ [l] /\ (iloop l (D.take (k + 1))).2 = true := by
  rw [iloop_snoc h]; unfold istep
  rw [if_pos h2, if_pos ⟨h1, h3⟩]; exact ⟨rfl, rfl⟩
theorem iloop_iv {l p : Ls} {D : List Ls} {k : Nat} (h : D[k]? = some p) (h1 : (iloop l (D.take k)).2 = false) (h3 : l.o <= p.o) (h2 : ¬ p.o = l.o) : (iloop l (D.take (k + 1))).1 = (iloop l (D.take k)).1 ++ [l] ++ [p] /\ (iloop l (D.take (k + 1))).2 = true := by
  rw [iloop_snoc h]; unfold istep
  rw [if_neg h2, if_pos ⟨h1, h3⟩]; exact ⟨rfl, rfl⟩
end Go.Proofs.Ytfpafjdakipccaa
