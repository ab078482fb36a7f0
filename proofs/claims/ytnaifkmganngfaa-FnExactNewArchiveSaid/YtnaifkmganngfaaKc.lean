/- The helpers of the laws over archives. -/
import Derived.Test.YtnaifkmganngfaaKb
namespace Go.Proofs.Ytnaifkmganngfaa
open Go.RowKit




set_option maxRecDepth 100000 in
set_option maxHeartbeats 4000000 in
theorem szArchive_fit (a : Option Addr) (n c : Nat) (t : Int) (D : List (List Rw)) (w : World) (hA : TArg w (.slice a n c) D) (hd : ttot D ≤ 1048576) :
    Calls Try.prog 22 #[.agg #[.slice a n c, .int .i64 t], .int .i64 1048576] w fun e w' => e = .returned (.int .i64 (1048576 - (ttot D : Int))) ∧ Below w.heap.size w w' := by
  have HA := Lib.hid hA
  clear hA
  obtain ⟨z, hz⟩ : ∃ z : Int, z = 1048576 - (ttot D : Int) := ⟨_, rfl⟩
  have HZ := Lib.hid hz
  have hz0 : ¬ z < 0 := by omega
  rw [← hz]
  clear hz
  go_enter Try.func22, Try.ntmps22
  go_wp2_with fail
  go_at_call 42
  refine (szRowSS_fit _ D 1048576 _ (HA.out.below (by go_grown)) (by omega) (by omega)).mono ?_
  rw [← HZ.out]
  rintro e w3 ⟨rfl, hb3⟩
  have hB : Hid (Below w.heap.size w w3) := Below.trans (by go_grown) (hb3.mono (by simp <;> omega))
  clear hb3
  go_wp2_with fail
  go_ret
  exact ⟨rfl, hB.out⟩
set_option maxRecDepth 100000 in
set_option maxHeartbeats 4000000 in
theorem szArchive_big (a : Option Addr) (n c : Nat) (t : Int) (D : List (List Rw)) (w : World) (hA : TArg w (.slice a n c) D) (hd : 1048576 < ttot D) :
    Calls Try.prog 22 #[.agg #[.slice a n c, .int .i64 t], .int .i64 1048576] w fun e w' => e = .returned (.int .i64 (-1)) ∧ Below w.heap.size w w' := by
  have HA := Lib.hid hA
  clear hA
  have hm : (-1 : Int) < 0 := by omega
  go_enter Try.func22, Try.ntmps22
  go_wp2_with fail
  go_at_call 42
  refine (szRowSS_big _ D 1048576 _ (HA.out.below (by go_grown)) (by omega) (by omega) (by omega)).mono ?_
  rintro e w3 ⟨rfl, hb3⟩
  have hB : Hid (Below w.heap.size w w3) := Below.trans (by go_grown) (hb3.mono (by simp <;> omega))
  clear hb3
  go_wp2_with fail
  go_ret
  exact ⟨rfl, hB.out⟩

set_option maxRecDepth 100000 in
set_option maxHeartbeats 4000000 in
theorem toArchive_any (v : Value) (t : Int) (n : Nat) (D : List (List Rw)) (w : World) (hA : TArg w v D) (hd : ttot D ≤ 1048576) (hn : D.length = n) :
    Calls Try.prog 23 #[.agg #[v, .int .i64 t]] w fun e w' => ∃ rv, e = .returned (.agg #[rv, .int .i64 t]) ∧ KRow w' w.heap.size w'.heap.size rv n D ∧ Below w.heap.size w w' := by
  have HA := Lib.hid hA
  have HN := Lib.hid hn
  obtain ⟨a, c, e⟩ := hA.slice
  rw [hn] at e
  subst e
  clear hA hn
  go_enter Try.func23, Try.ntmps23
  go_wp2_with fail
  obtain ⟨q1, hq1⟩ : ∃ q, q = (((w.alloc (.cells #[.slice a n c, .int .i64 t] 38)).alloc (.cells #[.slice none 0 0, .int .i64 0] 28)).alloc (.cells #[.slice none 0 0, .int .i64 0] 28)) := ⟨_, rfl⟩
  have hb1 : Below w.heap.size w q1 := by rw [hq1]; go_grown
  have sz1 : w.heap.size + 3 ≤ q1.heap.size := by rw [hq1]; simp
  have c1_0 : q1.cell? ⟨w.heap.size, 0, none⟩ = some (.slice a n c) := by rw [hq1, old_box (by simp <;> omega), old_box (by simp <;> omega), new_at (by simp)]; rfl
  have c1_1 : q1.cell? ⟨w.heap.size, 1, none⟩ = some (.int .i64 t) := by rw [hq1, old_box (by simp <;> omega), old_box (by simp <;> omega), new_at (by simp)]; rfl
  have c1_2 : q1.cell? ⟨w.heap.size + 1, 0, none⟩ = some (.slice none 0 0) := by rw [hq1, old_box (by simp <;> omega), new_at (by simp)]; rfl
  have c1_3 : q1.cell? ⟨w.heap.size + 1, 1, none⟩ = some (.int .i64 0) := by rw [hq1, old_box (by simp <;> omega), new_at (by simp)]; rfl
  have c1_4 : q1.cell? ⟨w.heap.size + 1 + 1, 0, none⟩ = some (.slice none 0 0) := by rw [hq1, new_at (by simp)]; rfl
  have c1_5 : q1.cell? ⟨w.heap.size + 1 + 1, 1, none⟩ = some (.int .i64 0) := by rw [hq1, new_at (by simp)]; rfl
  have g1_0 : q1.frozen? ⟨w.heap.size + 1, 0, none⟩ = false := by rw [hq1, old_frz (by simp <;> omega), new_frz (by simp)]
  have g1_1 : q1.frozen? ⟨w.heap.size + 1, 1, none⟩ = false := by rw [hq1, old_frz (by simp <;> omega), new_frz (by simp)]
  have g1_2 : q1.frozen? ⟨w.heap.size + 1 + 1, 0, none⟩ = false := by rw [hq1, new_frz (by simp)]
  have g1_3 : q1.frozen? ⟨w.heap.size + 1 + 1, 1, none⟩ = false := by rw [hq1, new_frz (by simp)]
  have B1 : Hid (Below w.heap.size w q1) := Lib.hid hb1
  rw [← hq1]
  have d1_0 : w.heap.size < q1.heap.size := by omega
  have e1_0 : w.heap.size ≠ q1.heap.size := by omega
  have d1_1 : w.heap.size + 1 < q1.heap.size := by omega
  have e1_1 : w.heap.size + 1 ≠ q1.heap.size := by omega
  have d1_2 : w.heap.size + 1 + 1 < q1.heap.size := by omega
  have e1_2 : w.heap.size + 1 + 1 ≠ q1.heap.size := by omega
  clear hq1 hb1
  go_wp2_with fail
  go_at_call 43
  refine (toRowSS_any _ D _ (HA.out.below B1.out) hd).mono ?_
  rintro e v2 ⟨rv, rfl, hr, hb2⟩
  have sz2 : q1.heap.size ≤ v2.heap.size := hb2.size
  have st2 : Below q1.heap.size q1 v2 := hb2
  have c2_0 : v2.cell? ⟨w.heap.size, 0, none⟩ = some (.slice a n c) := by rw [(bcell st2).1 _ _ (by omega)]; exact c1_0
  have c2_1 : v2.cell? ⟨w.heap.size, 1, none⟩ = some (.int .i64 t) := by rw [(bcell st2).1 _ _ (by omega)]; exact c1_1
  have c2_2 : v2.cell? ⟨w.heap.size + 1, 0, none⟩ = some (.slice none 0 0) := by rw [(bcell st2).1 _ _ (by omega)]; exact c1_2
  have c2_3 : v2.cell? ⟨w.heap.size + 1, 1, none⟩ = some (.int .i64 0) := by rw [(bcell st2).1 _ _ (by omega)]; exact c1_3
  have c2_4 : v2.cell? ⟨w.heap.size + 1 + 1, 0, none⟩ = some (.slice none 0 0) := by rw [(bcell st2).1 _ _ (by omega)]; exact c1_4
  have c2_5 : v2.cell? ⟨w.heap.size + 1 + 1, 1, none⟩ = some (.int .i64 0) := by rw [(bcell st2).1 _ _ (by omega)]; exact c1_5
  have g2_0 : v2.frozen? ⟨w.heap.size + 1, 0, none⟩ = false := by rw [(bcell st2).2 _ _ (by omega)]; exact g1_0
  have g2_1 : v2.frozen? ⟨w.heap.size + 1, 1, none⟩ = false := by rw [(bcell st2).2 _ _ (by omega)]; exact g1_1
  have g2_2 : v2.frozen? ⟨w.heap.size + 1 + 1, 0, none⟩ = false := by rw [(bcell st2).2 _ _ (by omega)]; exact g1_2
  have g2_3 : v2.frozen? ⟨w.heap.size + 1 + 1, 1, none⟩ = false := by rw [(bcell st2).2 _ _ (by omega)]; exact g1_3
  have B2 : Hid (Below w.heap.size w v2) := B1.out.trans (st2.mono (by omega))
  have d2_0 : w.heap.size < v2.heap.size := by omega
  have e2_0 : w.heap.size ≠ v2.heap.size := by omega
  have d2_1 : w.heap.size + 1 < v2.heap.size := by omega
  have e2_1 : w.heap.size + 1 ≠ v2.heap.size := by omega
  have d2_2 : w.heap.size + 1 + 1 < v2.heap.size := by omega
  have e2_2 : w.heap.size + 1 + 1 ≠ v2.heap.size := by omega
  clear d1_0 e1_0 d1_1 e1_1 d1_2 e1_2 c1_0 c1_1 c1_2 c1_3 c1_4 c1_5 g1_0 g1_1 g1_2 g1_3 B1 st2 hb2
  have hK : KRow v2 q1.heap.size v2.heap.size rv n D := ⟨hr, HN.out⟩
  have HK := Lib.hid hK
  obtain ⟨ra, rc, rfl⟩ := hK.slice
  clear hK hr
  obtain ⟨w9, hw9⟩ : ∃ w9, w9 = ((((v2.setCell ⟨w.heap.size + 1 + 1, 0, none⟩ (.slice ra n rc)).setCell ⟨w.heap.size + 1 + 1, 1, none⟩ (.int .i64 t)).setCell ⟨w.heap.size + 1, 0, none⟩ (.slice ra n rc)).setCell ⟨w.heap.size + 1, 1, none⟩ (.int .i64 t)) := ⟨_, rfl⟩
  have hs9 : w9.heap.size = v2.heap.size := by rw [hw9]; simp [World.setCell]
  have Hrow : Hid (KRow w9 w.heap.size w9.heap.size (.slice ra n rc) n D) := by
    show KRow _ _ _ _ _ _
    rw [hs9, hw9]
    exact ((((HK.out.setCell (p := ⟨w.heap.size + 1 + 1, 0, none⟩) (.inl (by show w.heap.size + 1 + 1 < _; omega)) _).setCell (p := ⟨w.heap.size + 1 + 1, 1, none⟩) (.inl (by show w.heap.size + 1 + 1 < _; omega)) _).setCell (p := ⟨w.heap.size + 1, 0, none⟩) (.inl (by show w.heap.size + 1 < _; omega)) _).setCell (p := ⟨w.heap.size + 1, 1, none⟩) (.inl (by show w.heap.size + 1 < _; omega)) _).wide (by omega) (Nat.le_refl _)
  have HB9 : Hid (Below w.heap.size w w9) := by
    show Below _ _ _
    rw [hw9]
    exact ((((B2.out.setCell (p := ⟨w.heap.size + 1 + 1, 0, none⟩) (by show _ ≤ w.heap.size + 1 + 1; omega) _).setCell (p := ⟨w.heap.size + 1 + 1, 1, none⟩) (by show _ ≤ w.heap.size + 1 + 1; omega) _).setCell (p := ⟨w.heap.size + 1, 0, none⟩) (by show _ ≤ w.heap.size + 1; omega) _).setCell (p := ⟨w.heap.size + 1, 1, none⟩) (by show _ ≤ w.heap.size + 1; omega) _)
  have r0 : w9.cell? ⟨w.heap.size + 1, 0, none⟩ = some (.slice ra n rc) := by rw [hw9, World.cell?_setCell_other _ _ _ _ (by simp)]; exact World.cell?_setCell_same' _ _ _ (by rw [World.cell?_setCell_other _ _ _ _ (by simp <;> omega), World.cell?_setCell_other _ _ _ _ (by simp <;> omega), c2_2]; rfl)
  have r1 : w9.cell? ⟨w.heap.size + 1, 1, none⟩ = some (.int .i64 t) := by rw [hw9]; exact World.cell?_setCell_same' _ _ _ (by rw [World.cell?_setCell_other _ _ _ _ (by simp), World.cell?_setCell_other _ _ _ _ (by simp <;> omega), World.cell?_setCell_other _ _ _ _ (by simp <;> omega), c2_3]; rfl)
  have hRX : w.heap.size + 1 ≠ w.heap.size + 1 + 1 := by omega
  clear hs9
  go_wp2_with fail
  rw [← hw9]
  refine bodyPost_ret (v := .agg #[.slice ra n rc, .int .i64 t]) (by simp [results, Try.results23, go_sem, r0, r1]) rfl ⟨_, rfl, Hrow.out, HB9.out⟩
set_option maxRecDepth 100000 in
set_option maxHeartbeats 4000000 in
theorem eqArchive_same (t : Int) (D : List (List Rw)) (n lo hi lo' hi' : Nat) (v v' : Value) (w : World) (hr : KRow w lo hi v n D) (hr' : KRow w lo' hi' v' n D) (hh : hi ≤ w.heap.size) (hh' : hi' ≤ w.heap.size) :
    Calls Try.prog 25 #[.agg #[v, .int .i64 t], .agg #[v', .int .i64 t]] w fun e w' => e = .returned (.bool true) ∧ Below w.heap.size w w' := by
  have HR := Lib.hid hr
  have HR' := Lib.hid hr'
  obtain ⟨a, c, rfl⟩ := hr.slice
  obtain ⟨a', c', rfl⟩ := hr'.slice
  clear hr hr'
  go_enter Try.func25, Try.ntmps25
  go_wp2_with fail
  obtain ⟨q1, hq1⟩ : ∃ q, q = ((w.alloc (.cells #[.slice a n c, .int .i64 t] 28)).alloc (.cells #[(.slice a' n c'), .int .i64 t] 28)) := ⟨_, rfl⟩
  have hb1 : Below w.heap.size w q1 := by rw [hq1]; go_grown
  have sz1 : w.heap.size + 2 ≤ q1.heap.size := by rw [hq1]; simp
  have c1_0 : q1.cell? ⟨w.heap.size, 0, none⟩ = some (.slice a n c) := by rw [hq1, old_box (by simp <;> omega), new_at (by simp)]; rfl
  have c1_1 : q1.cell? ⟨w.heap.size, 1, none⟩ = some (.int .i64 t) := by rw [hq1, old_box (by simp <;> omega), new_at (by simp)]; rfl
  have c1_2 : q1.cell? ⟨w.heap.size + 1, 0, none⟩ = some ((.slice a' n c')) := by rw [hq1, new_at (by simp)]; rfl
  have c1_3 : q1.cell? ⟨w.heap.size + 1, 1, none⟩ = some (.int .i64 t) := by rw [hq1, new_at (by simp)]; rfl
  have B1 : Hid (Below w.heap.size w q1) := Lib.hid hb1
  rw [← hq1]
  have d1_0 : w.heap.size < q1.heap.size := by omega
  have e1_0 : w.heap.size ≠ q1.heap.size := by omega
  have d1_1 : w.heap.size + 1 < q1.heap.size := by omega
  have e1_1 : w.heap.size + 1 ≠ q1.heap.size := by omega
  clear hq1 hb1
  go_wp2_with fail
  go_at_call 46
  refine (eqRowSS_same D lo hi lo' hi' _ _ _ (HR.out.below B1.out hh).1 (HR'.out.below B1.out hh').1 (by omega) (by omega)).mono ?_
  rintro e v2 ⟨rfl, hb2⟩
  have sz2 : q1.heap.size ≤ v2.heap.size := hb2.size
  have st2 : Below q1.heap.size q1 v2 := hb2
  have c2_0 : v2.cell? ⟨w.heap.size, 0, none⟩ = some (.slice a n c) := by rw [(bcell st2).1 _ _ (by omega)]; exact c1_0
  have c2_1 : v2.cell? ⟨w.heap.size, 1, none⟩ = some (.int .i64 t) := by rw [(bcell st2).1 _ _ (by omega)]; exact c1_1
  have c2_2 : v2.cell? ⟨w.heap.size + 1, 0, none⟩ = some ((.slice a' n c')) := by rw [(bcell st2).1 _ _ (by omega)]; exact c1_2
  have c2_3 : v2.cell? ⟨w.heap.size + 1, 1, none⟩ = some (.int .i64 t) := by rw [(bcell st2).1 _ _ (by omega)]; exact c1_3
  have B2 : Hid (Below w.heap.size w v2) := B1.out.trans (st2.mono (by omega))
  have d2_0 : w.heap.size < v2.heap.size := by omega
  have e2_0 : w.heap.size ≠ v2.heap.size := by omega
  have d2_1 : w.heap.size + 1 < v2.heap.size := by omega
  have e2_1 : w.heap.size + 1 ≠ v2.heap.size := by omega
  clear d1_0 e1_0 d1_1 e1_1 c1_0 c1_1 c1_2 c1_3 B1 st2 hb2
  go_wp2_with fail
  go_ret
  exact ⟨rfl, B2.out⟩
set_option maxRecDepth 100000 in
set_option maxHeartbeats 4000000 in
theorem markArchive_M (K t : Int) (D : List (List Rw)) (n lo hi : Nat) (v : Value) (w : World) (hK : K = 1 + ((rtot D * 5 : Nat) : Int)) (hr : KRow w lo hi v n D) (hh : hi ≤ w.heap.size) (hT : rtot D ≤ 1100000) :
    Calls Try.prog 28 #[.agg #[v, .int .i64 t], .int .i64 1] w fun e w' => e = .returned (.int .i64 K) ∧ MRow w' lo hi v n D ∧ Tur lo hi w w' := by
  have HR := Lib.hid hr
  obtain ⟨a, c, rfl⟩ := hr.slice
  have HN := Lib.hid hr.2
  have HK := Lib.hid hK
  clear hr hK
  go_enter Try.func28, Try.ntmps28
  go_wp2_with fail
  obtain ⟨q1, hq1⟩ : ∃ q1, q1 = w.alloc (.cells #[.slice a n c, .int .i64 t] 28) := ⟨_, rfl⟩
  have hb1 : Below w.heap.size w q1 := by rw [hq1]; exact (Below.refl _ _).alloc (Nat.le_refl _) _
  have hs1 : w.heap.size < q1.heap.size := by rw [hq1]; simp
  rw [← hq1]
  clear hq1
  go_at_call 47
  refine (markRowSS_M K D lo hi _ q1 HK.out (HR.out.below hb1 hh).1 (by omega) hT).mono ?_
  rintro e w3 ⟨rfl, hM, hO⟩
  rw [HN.out] at hM
  have HM : Hid (MRow w3 lo hi (.slice a n c) n D ∧ Tur lo hi w w3) := ⟨hM, ⟨hO.os.trans hb1.os, hO.tape.trans hb1.tape, hO.output.trans hb1.output, Nat.le_trans hb1.size hO.size, fun b hb hd => (hO.block b (by omega) hd).trans (hb1.block b hb)⟩⟩
  clear hM hO hb1
  go_wp2_with fail
  go_ret
  exact ⟨rfl, HM.out.1, HM.out.2⟩
set_option maxRecDepth 100000 in
set_option maxHeartbeats 4000000 in
theorem heldArchive_K (K t : Int) (D : List (List Rw)) (n lo hi : Nat) (v : Value) (w : World) (hK : K = 1 + ((rtot D * 5 : Nat) : Int)) (hr : MRow w lo hi v n D) (hh : hi ≤ w.heap.size) (hT : rtot D ≤ 1100000) :
    Calls Try.prog 29 #[.agg #[v, .int .i64 t], .int .i64 1] w fun e w' => e = .returned (.int .i64 K) ∧ Below w.heap.size w w' := by
  have HR := Lib.hid hr
  obtain ⟨a, c, rfl⟩ := hr.slice
  have hK0 : ¬ K < 0 := by omega
  have HK := Lib.hid hK
  clear hr hK
  go_enter Try.func29, Try.ntmps29
  go_wp2_with fail
  go_at_call 48
  refine (heldRowSS_K K D n lo hi _ _ HK.out (HR.out.below (B := w.heap.size) (by go_grown) hh) hT).mono ?_
  rintro e w3 ⟨rfl, rfl⟩
  go_wp2_with fail
  go_ret
  exact ⟨rfl, by go_grown⟩

end Go.Proofs.Ytnaifkmganngfaa
