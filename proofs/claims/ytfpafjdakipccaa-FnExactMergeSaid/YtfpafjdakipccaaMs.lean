/- Merge of the specification. -/
import Derived.Test.YtfpafjdakipccaaMa
import Derived.Test.YtfpafjdakipccaaLl
namespace Go.Proofs.Ytfpafjdakipccaa
open Go.RowKit
structure Sg (w wr : World) (va vb rv : Value) (X : Nat) (D : List Ls) : Prop where
  m : Mg3 w wr va vb
  cx : wr.cell? ⟨X, 0, none⟩ = some rv
  fx : wr.frozen? ⟨X, 0, none⟩ = false
  lx : w.heap.size + 3 <= X
  hx : X < wr.heap.size
  row : ∃ lo hi, DRow wr lo hi rv D /\ (hi <= X ∨ X < lo) /\ w.heap.size + 3 <= lo /\ hi <= wr.heap.size
theorem Sg.start {w w3 : World} {va vb rv : Value} {D : List Ls} {lo : Nat} {T : TypeId} (m : Mg3 w w3 va vb) (h : DRow w3 lo w3.heap.size rv D) (hlo : w.heap.size + 3 <= lo) : Sg w (w3.alloc (.cells #[rv] T)) va vb rv w3.heap.size D :=
  ⟨m.next ((Below.refl _ _).alloc m.size _), by rw [new_at rfl]; rfl, new_frz rfl, m.size, by simp, ⟨lo, w3.heap.size, h.below ((Below.refl _ _).alloc (Nat.le_refl _) _) (Nat.le_refl _), .inl (Nat.le_refl _), hlo, by simp⟩⟩
theorem Sg.step {w wr w3 : World} {va vb rv rv' : Value} {X : Nat} {D D' : List Ls} (h : Sg w wr va vb rv X D) (hb : Below wr.heap.size wr w3) (hr : DRow w3 wr.heap.size w3.heap.size rv' D') : Sg w (w3.setCell ⟨X, 0, none⟩ rv') va vb rv' X D' :=
  have hx := h.hx
  have hm := h.m.size
  have hlx := h.lx
  have hz := hb.size
  ⟨h.m.next ((hb.mono hm).setCell h.lx _), World.cell?_setCell_same' _ _ _ (by rw [(bcell hb).1 _ _ hx, h.cx]; rfl), by rw [World.frozen?_setCell, (bcell hb).2 _ _ hx]; exact h.fx, h.lx, by simp [World.setCell]; omega,
   ⟨wr.heap.size, w3.heap.size, hr.setCell (.inl hx) _, .inr hx, hm, by simp [World.setCell]⟩⟩
set_option linter.unusedVariables false in
set_option maxRecDepth 100000 in
set_option maxHeartbeats 8000000 in
theorem smer_1 (DA DB : List Ls) (lo hi lo2 hi2 : Nat) (v v2 : Value) (w : World) (hr : DRow w lo hi v DA) (hr2 : DRow w lo2 hi2 v2 DB) (hh : hi <= w.heap.size) (hh2 : hi2 <= w.heap.size) (hd : dtot DA <= 1048576) (ha : dokB DA = false) :
    Calls Try.prog 40 #[.agg #[v], .agg #[v2]] w fun e w' => MerPost DA DB w e w' := by
  have HA := Lib.hid ha
  have HC : Hid (mokB DA DB = false) := Lib.hid (by unfold mokB; rw [ha]; simp)
  have HI : Hid (merg DA DB = DA) := Lib.hid (merg_no (.inl ha))
  have R0 := Lib.hid hr
  have R1 := Lib.hid hr2
  have hr' := hr2
  obtain ⟨a0, c0, e0⟩ := hr.slice
  subst e0
  obtain ⟨a, c, us, xs, bs, ev, X⟩ := hr'
  subst ev
  obtain ⟨na, hna⟩ : ∃ n, n = DA.length := ⟨_, rfl⟩
  rw [<- hna] at R0 ⊢
  obtain ⟨n, hn⟩ : ∃ n, n = DB.length := ⟨_, rfl⟩
  rw [<- hn] at R1 ⊢
  clear X hr hr2 hn hna ha
  go_enter Try.func40, Try.ntmps40
  go_wp2_with fail
  obtain ⟨q0, hq0⟩ : ∃ q, q = ((w.alloc (.cells #[.slice a0 na c0] 26)).alloc (.cells #[.slice a n c] 26)).alloc (.cells #[.slice none 0 0] 26) := ⟨_, rfl⟩
  have I0 : Hid (Mg3 w q0 (.slice a0 na c0) (.slice a n c)) := Lib.hid (by
    rw [hq0]
    refine ⟨?_, ?_, ?_, ?_, ?_, ?_⟩
    · rw [old_box (by simp <;> omega), old_box (by simp), new_at rfl]; rfl
    all_goals first | (rw [old_box (by simp), new_at (by simp)]; rfl; done) | (rw [new_at (by simp)]; rfl; done) | (rw [new_frz (by simp)]; done) | (simp; done) | go_grown)
  rw [<- hq0]
  clear hq0
  have c0_ := I0.out.c0
  have c1_ := I0.out.c1
  have r_ := I0.out.r
  have f_ := I0.out.f
  have size_ := I0.out.size
  have hw0_ : w.heap.size < q0.heap.size := by omega
  have hw1_ : w.heap.size + 1 < q0.heap.size := by omega
  have hw2_ : w.heap.size + 2 < q0.heap.size := by omega
  go_wp2_with fail
  go_at_call 14
  refine (sdbok_any DA lo hi _ _ (R0.out.below I0.out.below hh) (by have := I0.out.size; omega)).mono ?_
  rw [HA.out]
  rintro e w1 ⟨rfl, hb1⟩
  have I1 : Hid (Mg3 w w1 (.slice a0 na c0) (.slice a n c)) := Lib.hid (I0.out.next (hb1.mono (I0.out.size)))
  clear c0_ c1_ r_ f_ size_ hw0_ hw1_ hw2_
  have c0_ := I1.out.c0
  have c1_ := I1.out.c1
  have r_ := I1.out.r
  have f_ := I1.out.f
  have size_ := I1.out.size
  have hw0_ : w.heap.size < w1.heap.size := by omega
  have hw1_ : w.heap.size + 1 < w1.heap.size := by omega
  have hw2_ : w.heap.size + 2 < w1.heap.size := by omega
  go_wp2_with fail
  go_at_call 69
  refine (sdcopy_any DA lo hi _ _ (R0.out.below I1.out.below hh) (by have := I1.out.size; omega) hd).mono ?_
  rintro e w2 ⟨rv, rfl, hrow, hb2⟩
  have I2 : Hid (Mg3 w w2 (.slice a0 na c0) (.slice a n c)) := Lib.hid (I1.out.next (hb2.mono (I1.out.size)))
  clear c0_ c1_ r_ f_ size_ hw0_ hw1_ hw2_
  have HW := Lib.hid hrow
  obtain ⟨ra, rc, rfl⟩ := hrow.slice
  clear hrow
  obtain ⟨n9, hn9⟩ : ∃ n, n = DA.length := ⟨_, rfl⟩
  rw [<- hn9] at HW ⊢
  clear hn9
  have c0_ := I2.out.c0
  have c1_ := I2.out.c1
  have r_ := I2.out.r
  have f_ := I2.out.f
  have size_ := I2.out.size
  have hw0_ : w.heap.size < w2.heap.size := by omega
  have hw1_ : w.heap.size + 1 < w2.heap.size := by omega
  have hw2_ : w.heap.size + 2 < w2.heap.size := by omega
  go_wp2_with fail
  refine bodyPost_ret (v := .tuple #[.agg #[(.slice ra n9 rc)], .bool false]) (by simp [results, Try.results40, go_sem, *]) rfl (merP (.slice ra n9 rc) (by rw [HC.out]) ?_ ?_)
  · rw [HI.out]
    exact ((HW.out.setCell (.inl (by have := I1.out.size; simp <;> omega)) _).wide (by have := I1.out.size; omega) (by simp [World.setCell]))
  · exact (I2.out.below.setCell (by simp <;> omega) _)
set_option linter.unusedVariables false in
set_option maxRecDepth 100000 in
set_option maxHeartbeats 8000000 in
theorem smer_2 (DA DB : List Ls) (lo hi lo2 hi2 : Nat) (v v2 : Value) (w : World) (hr : DRow w lo hi v DA) (hr2 : DRow w lo2 hi2 v2 DB) (hh : hi <= w.heap.size) (hh2 : hi2 <= w.heap.size) (hd : dtot DA <= 1048576) (ha : dokB DA = true) (hb : dokB DB = false) :
    Calls Try.prog 40 #[.agg #[v], .agg #[v2]] w fun e w' => MerPost DA DB w e w' := by
  have HA := Lib.hid ha
  have HB := Lib.hid hb
  have HC : Hid (mokB DA DB = false) := Lib.hid (by unfold mokB; rw [hb]; simp)
  have HI : Hid (merg DA DB = DA) := Lib.hid (merg_no (.inr hb))
  have R0 := Lib.hid hr
  have R1 := Lib.hid hr2
  have hr' := hr2
  obtain ⟨a0, c0, e0⟩ := hr.slice
  subst e0
  obtain ⟨a, c, us, xs, bs, ev, X⟩ := hr'
  subst ev
  obtain ⟨na, hna⟩ : ∃ n, n = DA.length := ⟨_, rfl⟩
  rw [<- hna] at R0 ⊢
  obtain ⟨n, hn⟩ : ∃ n, n = DB.length := ⟨_, rfl⟩
  rw [<- hn] at R1 ⊢
  clear X hr hr2 hn hna ha hb
  go_enter Try.func40, Try.ntmps40
  go_wp2_with fail
  obtain ⟨q0, hq0⟩ : ∃ q, q = ((w.alloc (.cells #[.slice a0 na c0] 26)).alloc (.cells #[.slice a n c] 26)).alloc (.cells #[.slice none 0 0] 26) := ⟨_, rfl⟩
  have I0 : Hid (Mg3 w q0 (.slice a0 na c0) (.slice a n c)) := Lib.hid (by
    rw [hq0]
    refine ⟨?_, ?_, ?_, ?_, ?_, ?_⟩
    · rw [old_box (by simp <;> omega), old_box (by simp), new_at rfl]; rfl
    all_goals first | (rw [old_box (by simp), new_at (by simp)]; rfl; done) | (rw [new_at (by simp)]; rfl; done) | (rw [new_frz (by simp)]; done) | (simp; done) | go_grown)
  rw [<- hq0]
  clear hq0
  have c0_ := I0.out.c0
  have c1_ := I0.out.c1
  have r_ := I0.out.r
  have f_ := I0.out.f
  have size_ := I0.out.size
  have hw0_ : w.heap.size < q0.heap.size := by omega
  have hw1_ : w.heap.size + 1 < q0.heap.size := by omega
  have hw2_ : w.heap.size + 2 < q0.heap.size := by omega
  go_wp2_with fail
  go_at_call 14
  refine (sdbok_any DA lo hi _ _ (R0.out.below I0.out.below hh) (by have := I0.out.size; omega)).mono ?_
  rw [HA.out]
  rintro e w1 ⟨rfl, hb1⟩
  have I1 : Hid (Mg3 w w1 (.slice a0 na c0) (.slice a n c)) := Lib.hid (I0.out.next (hb1.mono (I0.out.size)))
  clear c0_ c1_ r_ f_ size_ hw0_ hw1_ hw2_
  have c0_ := I1.out.c0
  have c1_ := I1.out.c1
  have r_ := I1.out.r
  have f_ := I1.out.f
  have size_ := I1.out.size
  have hw0_ : w.heap.size < w1.heap.size := by omega
  have hw1_ : w.heap.size + 1 < w1.heap.size := by omega
  have hw2_ : w.heap.size + 2 < w1.heap.size := by omega
  go_wp2_with fail
  go_at_call 14
  refine (sdbok_any DB lo2 hi2 _ _ (R1.out.below I1.out.below hh2) (by have := I1.out.size; omega)).mono ?_
  rw [HB.out]
  rintro e w2 ⟨rfl, hb2⟩
  have I2 : Hid (Mg3 w w2 (.slice a0 na c0) (.slice a n c)) := Lib.hid (I1.out.next (hb2.mono (I1.out.size)))
  clear c0_ c1_ r_ f_ size_ hw0_ hw1_ hw2_
  have c0_ := I2.out.c0
  have c1_ := I2.out.c1
  have r_ := I2.out.r
  have f_ := I2.out.f
  have size_ := I2.out.size
  have hw0_ : w.heap.size < w2.heap.size := by omega
  have hw1_ : w.heap.size + 1 < w2.heap.size := by omega
  have hw2_ : w.heap.size + 2 < w2.heap.size := by omega
  go_wp2_with fail
  go_at_call 69
  refine (sdcopy_any DA lo hi _ _ (R0.out.below I2.out.below hh) (by have := I2.out.size; omega) hd).mono ?_
  rintro e w3 ⟨rv, rfl, hrow, hb3⟩
  have I3 : Hid (Mg3 w w3 (.slice a0 na c0) (.slice a n c)) := Lib.hid (I2.out.next (hb3.mono (I2.out.size)))
  clear c0_ c1_ r_ f_ size_ hw0_ hw1_ hw2_
  have HW := Lib.hid hrow
  obtain ⟨ra, rc, rfl⟩ := hrow.slice
  clear hrow
  obtain ⟨n9, hn9⟩ : ∃ n, n = DA.length := ⟨_, rfl⟩
  rw [<- hn9] at HW ⊢
  clear hn9
  have c0_ := I3.out.c0
  have c1_ := I3.out.c1
  have r_ := I3.out.r
  have f_ := I3.out.f
  have size_ := I3.out.size
  have hw0_ : w.heap.size < w3.heap.size := by omega
  have hw1_ : w.heap.size + 1 < w3.heap.size := by omega
  have hw2_ : w.heap.size + 2 < w3.heap.size := by omega
  go_wp2_with fail
  refine bodyPost_ret (v := .tuple #[.agg #[(.slice ra n9 rc)], .bool false]) (by simp [results, Try.results40, go_sem, *]) rfl (merP (.slice ra n9 rc) (by rw [HC.out]) ?_ ?_)
  · rw [HI.out]
    exact ((HW.out.setCell (.inl (by have := I2.out.size; simp <;> omega)) _).wide (by have := I2.out.size; omega) (by simp [World.setCell]))
  · exact (I3.out.below.setCell (by simp <;> omega) _)
set_option linter.unusedVariables false in
set_option maxRecDepth 100000 in
set_option maxHeartbeats 8000000 in
theorem smer_3 (DA DB : List Ls) (lo hi lo2 hi2 : Nat) (v v2 : Value) (w : World) (hr : DRow w lo hi v DA) (hr2 : DRow w lo2 hi2 v2 DB) (hh : hi <= w.heap.size) (hh2 : hi2 <= w.heap.size) (hd : dtot DA <= 1048576) (ha : dokB DA = true) (hb : dokB DB = true) :
    Calls Try.prog 40 #[.agg #[v], .agg #[v2]] w fun e w' => MerPost DA DB w e w' := by
  have hn10 := dokB_len hb
  have HA := Lib.hid ha
  have HB := Lib.hid hb
  have HC : Hid (mokB DA DB = true) := Lib.hid (by unfold mokB; rw [ha, hb]; rfl)
  have HMO : Hid (∀ k, dokB (mg DA DB k) = true) := Lib.hid fun k => mg_ok ha DB k
  have HME : Hid (∀ k, DB.length <= k -> mg DA DB k = merg DA DB) := Lib.hid fun k hk => merg_mg ha hb hk
  have R0 := Lib.hid hr
  have R1 := Lib.hid hr2
  have hr' := hr2
  obtain ⟨a0, c0, e0⟩ := hr.slice
  subst e0
  obtain ⟨a, c, us, xs, bs, ev, X⟩ := hr'
  subst ev
  obtain ⟨na, hna⟩ : ∃ n, n = DA.length := ⟨_, rfl⟩
  rw [<- hna] at R0 ⊢
  obtain ⟨n, hn⟩ : ∃ n, n = DB.length := ⟨_, rfl⟩
  rw [<- hn] at R1 ⊢
  have HN := Lib.hid hn
  have HX := Lib.hid X
  clear X hr hr2 hn hna ha hb
  rw [<- HN.out] at hn10
  go_enter Try.func40, Try.ntmps40
  go_wp2_with fail
  obtain ⟨q0, hq0⟩ : ∃ q, q = ((w.alloc (.cells #[.slice a0 na c0] 26)).alloc (.cells #[.slice a n c] 26)).alloc (.cells #[.slice none 0 0] 26) := ⟨_, rfl⟩
  have I0 : Hid (Mg3 w q0 (.slice a0 na c0) (.slice a n c)) := Lib.hid (by
    rw [hq0]
    refine ⟨?_, ?_, ?_, ?_, ?_, ?_⟩
    · rw [old_box (by simp <;> omega), old_box (by simp), new_at rfl]; rfl
    all_goals first | (rw [old_box (by simp), new_at (by simp)]; rfl; done) | (rw [new_at (by simp)]; rfl; done) | (rw [new_frz (by simp)]; done) | (simp; done) | go_grown)
  rw [<- hq0]
  clear hq0
  have c0_ := I0.out.c0
  have c1_ := I0.out.c1
  have r_ := I0.out.r
  have f_ := I0.out.f
  have size_ := I0.out.size
  have hw0_ : w.heap.size < q0.heap.size := by omega
  have hw1_ : w.heap.size + 1 < q0.heap.size := by omega
  have hw2_ : w.heap.size + 2 < q0.heap.size := by omega
  go_wp2_with fail
  go_at_call 14
  refine (sdbok_any DA lo hi _ _ (R0.out.below I0.out.below hh) (by have := I0.out.size; omega)).mono ?_
  rw [HA.out]
  rintro e w1 ⟨rfl, hb1⟩
  have I1 : Hid (Mg3 w w1 (.slice a0 na c0) (.slice a n c)) := Lib.hid (I0.out.next (hb1.mono (I0.out.size)))
  clear c0_ c1_ r_ f_ size_ hw0_ hw1_ hw2_
  have c0_ := I1.out.c0
  have c1_ := I1.out.c1
  have r_ := I1.out.r
  have f_ := I1.out.f
  have size_ := I1.out.size
  have hw0_ : w.heap.size < w1.heap.size := by omega
  have hw1_ : w.heap.size + 1 < w1.heap.size := by omega
  have hw2_ : w.heap.size + 2 < w1.heap.size := by omega
  go_wp2_with fail
  go_at_call 14
  refine (sdbok_any DB lo2 hi2 _ _ (R1.out.below I1.out.below hh2) (by have := I1.out.size; omega)).mono ?_
  rw [HB.out]
  rintro e w2 ⟨rfl, hb2⟩
  have I2 : Hid (Mg3 w w2 (.slice a0 na c0) (.slice a n c)) := Lib.hid (I1.out.next (hb2.mono (I1.out.size)))
  clear c0_ c1_ r_ f_ size_ hw0_ hw1_ hw2_
  have c0_ := I2.out.c0
  have c1_ := I2.out.c1
  have r_ := I2.out.r
  have f_ := I2.out.f
  have size_ := I2.out.size
  have hw0_ : w.heap.size < w2.heap.size := by omega
  have hw1_ : w.heap.size + 1 < w2.heap.size := by omega
  have hw2_ : w.heap.size + 2 < w2.heap.size := by omega
  go_wp2_with fail
  go_at_call 69
  refine (sdcopy_any DA lo hi _ _ (R0.out.below I2.out.below hh) (by have := I2.out.size; omega) hd).mono ?_
  rintro e w3 ⟨rv, rfl, hrow, hb3⟩
  have I3 : Hid (Mg3 w w3 (.slice a0 na c0) (.slice a n c)) := Lib.hid (I2.out.next (hb3.mono (I2.out.size)))
  clear c0_ c1_ r_ f_ size_ hw0_ hw1_ hw2_
  have HW := Lib.hid hrow
  obtain ⟨ra, rc, rfl⟩ := hrow.slice
  clear hrow
  obtain ⟨n9, hn9⟩ : ∃ n, n = DA.length := ⟨_, rfl⟩
  rw [<- hn9] at HW ⊢
  clear hn9
  have HSG : Hid (Sg w (w3.alloc (.cells #[.slice ra n9 rc] 26)) (.slice a0 na c0) (.slice a n c) (.slice ra n9 rc) w3.heap.size (mg DA DB 0)) := Lib.hid (by rw [mg_zero]; exact Sg.start I3.out HW.out I2.out.size)
  have c0_ := I3.out.c0
  have c1_ := I3.out.c1
  have r_ := I3.out.r
  have f_ := I3.out.f
  have size_ := I3.out.size
  have hw0_ : w.heap.size < w3.heap.size := by omega
  have hw1_ : w.heap.size + 1 < w3.heap.size := by omega
  have hw2_ : w.heap.size + 2 < w3.heap.size := by omega
  go_wp2
  clear c0_ c1_ r_ f_ size_ hw0_ hw1_ hw2_
  go_loopw [7] (fun i wr => ∃ (k : Nat) (rv : Value), k <= n /\ i = .int .i64 (k : Int) /\ Hid (Sg w wr (.slice a0 na c0) (.slice a n c) rv w3.heap.size (mg DA DB k))) (fun i _ => n - (intOf i).toNat)
  case atStart => exact ⟨0, _, Nat.zero_le _, rfl, HSG⟩
  case round =>
    clear HSG I3 HW
    obtain ⟨k, rv, hk, rfl, hG⟩ := hrel
    have hR := Lib.hid hG.out.m
    have HMK := Lib.hid (HMO.out k)
    have HME1 : Hid (n <= k -> mg DA DB k = merg DA DB) := Lib.hid fun h => HME.out k (by have := HN.out; omega)
    have HST : Hid (∀ p, DB[k]? = some p -> mg DA DB (k + 1) = inst (mg DA DB k) p) := Lib.hid fun p h => mg_snoc h
    obtain ⟨D, hD⟩ : ∃ D, D = mg DA DB k := ⟨_, rfl⟩
    rw [<- hD] at HMK hG HST HME1
    clear hD
    have HDT := Lib.hid (dtot_ok HMK.out)
    have cx := hG.out.cx
    have fx := hG.out.fx
    have lx := hG.out.lx
    have hx := hG.out.hx
    obtain ⟨lo3, hi3, hr3, hsep, l3, z3⟩ := hG.out.row
    obtain ⟨ra, rc, er⟩ := hr3.slice
    subst er
    have HR3 := Lib.hid hr3
    clear hr3
    obtain ⟨n9, hn9⟩ : ∃ n, n = D.length := ⟨_, rfl⟩
    rw [<- hn9] at HR3 cx hG
    clear hn9
    by_cases hlt : k < n
    · skip
      obtain ⟨p, hp⟩ : ∃ p, DB[k]? = some p := ⟨_, List.getElem?_eq_getElem (by have := HN.out; omega)⟩
      obtain ⟨G, rfl, g1, g2, _, g4, _⟩ := HX.out.outer (by have := HN.out; omega)
      have hc := (g4 k p hp).below hR.out.below (by omega)
      obtain ⟨i1, i2, i3'⟩ := HX.out.inner k p hp
      have RP := Lib.hid (i1.below hR.out.below (by omega))
      obtain ⟨x1, y1, x2, y2, e1, e2⟩ := i1.slice
      rw [e1, e2] at hc RP
      obtain ⟨d1, d2, d3, d4, d5⟩ := hc
      have hk0 : (0 : Int) <= (k : Int) := by omega
      have hk1 : (k : Int) < (n : Int) := by omega
      have hbz := hR.out.below.size
      have hGw : G < wr.heap.size := by omega
      obtain ⟨H0, hH0⟩ : ∃ q, q = (bs k).1 := ⟨_, rfl⟩
      obtain ⟨H1, hH1⟩ : ∃ q, q = (bs k).2 := ⟨_, rfl⟩
      have z1 : H1 <= wr.heap.size := by omega
      rw [<- hH0, <- hH1] at RP
      have Hp := Lib.hid hp
      have HPO := Lib.hid (dokB_get HB.out hp).1
      have cc0 := hR.out.c0
      have cc1 := hR.out.c1
      have hsz := hR.out.size
      have hsz0 : w.heap.size < wr.heap.size := by omega
      have hsz1 : w.heap.size + 1 < wr.heap.size := by omega
      have z2 : H1 <= w.heap.size := by omega
      clear i1 i2 i3' e1 e2 hH0 hH1 hp g4
      have HS1 := Lib.hid (HST.out p Hp.out)
      go_wp2_with fail
      go_region_law (first
        | (go_simp; go_at_call 29; refine (sinst_any D p lo3 hi3 H0 H1 _ _ _ _ (HR3.out.below (B := wr.heap.size) (by go_grown) z3) (RP.out.below (B := wr.heap.size) (by go_grown) z1) (by simp <;> omega) (by simp <;> omega) HDT.out).mono ?_; rintro e w4 ⟨rv3, rfl, hr3, hb3⟩; obtain ⟨rb, rd, er⟩ := hr3.slice; subst er; have HB3 : Hid (Below wr.heap.size wr w4) := Lib.hid (Below.trans (by go_grown) (hb3.mono (by simp))); have cq : w4.cell? ⟨w3.heap.size, 0, none⟩ = some (.slice ra n9 rc) := (by rw [(bcell HB3.out).1 _ _ hx]; exact cx); have fq : w4.frozen? ⟨w3.heap.size, 0, none⟩ = false := (by rw [(bcell HB3.out).2 _ _ hx]; exact fx); have lq : w3.heap.size < w4.heap.size := (by have hh := HB3.out.size; omega); have HR4 : Hid (DRow w4 wr.heap.size w4.heap.size (.slice rb (inst D p).length rd) (inst D p)) := Lib.hid hr3; clear hr3 hb3))
      all_goals
        have hG2 : Hid (Sg w (w4.setCell ⟨w3.heap.size, 0, none⟩ (.slice rb (inst D p).length rd)) (.slice a0 na c0) (.slice (some ⟨G, 0, none⟩) n c) (.slice rb (inst D p).length rd) w3.heap.size (mg DA DB (k + 1))) := Lib.hid (by rw [HS1.out]; exact hG.out.step HB3.out HR4.out)
        clear HB3 HR4 cq fq lq
        obtain ⟨wy, hwy⟩ : ∃ q, q = w4.setCell ⟨w3.heap.size, 0, none⟩ (.slice rb (inst D p).length rd) := ⟨_, rfl⟩
        rw [<- hwy] at hG2 ⊢
        clear hwy
        go_wp2_with fail
        go_roundw
        case rel => exact ⟨k + 1, _, by omega, by go_num, hG2⟩
        case measure => simp [intOf]; omega
    · have hge : ¬ ((k : Int) < (n : Int)) := by omega
      have HI := Lib.hid (HME1.out (by omega)).symm
      have c1_ := hR.out.c1
      have r_ := hR.out.r
      have f_ := hR.out.f
      have size_ := hR.out.size
      have hw1_ : w.heap.size + 1 < wr.heap.size := by omega
      have hw2_ : w.heap.size + 2 < wr.heap.size := by omega
      go_wp2_with fail
      refine bodyPost_ret (v := .tuple #[.agg #[.slice ra n9 rc], .bool true]) (by simp [results, Try.results40, go_sem, *]) rfl (merP (.slice ra n9 rc) (by rw [HC.out]) ?_ ?_)
      · rw [HI.out]
        exact ((HR3.out.setCell (.inl (by simp <;> omega)) _).wide (by omega) (by simp [World.setCell]; omega))
      · exact (hR.out.below.setCell (by simp <;> omega) _)
theorem smer_any (DA DB : List Ls) (lo hi lo2 hi2 : Nat) (v v2 : Value) (w : World) (hr : DRow w lo hi v DA) (hr2 : DRow w lo2 hi2 v2 DB) (hh : hi <= w.heap.size) (hh2 : hi2 <= w.heap.size) (hd : dtot DA <= 1048576) :
    Calls Try.prog 40 #[.agg #[v], .agg #[v2]] w fun e w' => MerPost DA DB w e w' := by
  cases ha : dokB DA
  · exact smer_1 DA DB lo hi lo2 hi2 v v2 w hr hr2 hh hh2 hd ha
  · cases hb : dokB DB
    · exact smer_2 DA DB lo hi lo2 hi2 v v2 w hr hr2 hh hh2 hd ha hb
    · exact smer_3 DA DB lo hi lo2 hi2 v v2 w hr hr2 hh hh2 hd ha hb
end Go.Proofs.Ytfpafjdakipccaa
