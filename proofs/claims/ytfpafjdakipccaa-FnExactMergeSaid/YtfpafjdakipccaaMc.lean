/- Merge of the program. -/
import Derived.Test.YtfpafjdakipccaaMa
import Derived.Test.YtfpafjdakipccaaKd
import Derived.Test.YtfpafjdakipccaaCq
import Derived.Test.YtfpafjdakipccaaCf
namespace Go.Proofs.Ytfpafjdakipccaa
open Go.RowKit
set_option linter.unusedVariables false in
set_option maxRecDepth 100000 in
set_option maxHeartbeats 8000000 in
theorem imer_1 (DA DB : List Ls) (lo hi lo2 hi2 : Nat) (v v2 : Value) (w : World) (hr : DRow w lo hi v DA) (hr2 : DRow w lo2 hi2 v2 DB) (hh : hi <= w.heap.size) (hh2 : hi2 <= w.heap.size) (hd : dtot DA <= 1048576) (ha : dokB DA = false) :
    Calls Try.prog 16 #[.agg #[v], .agg #[v2]] w fun e w' => MerPost DA DB w e w' := by
  have HA := Lib.hid ha
  have HC : Hid (mokB DA DB = false) := Lib.hid (by unfold mokB; rw [ha]; simp)
  have HI : Hid (merg DA DB = DA) := Lib.hid (merg_no (.inl ha))
  have R0 := Lib.hid hr
  have R1 := Lib.hid hr2
  have hr' := hr2
  obtain ⟨a0, c0, e0⟩ := hr.slice
  subst e0
  obtain ⟨a, c, us, xs, bs, ev, X⟩ := hr'
  subst ev
  obtain ⟨na, hna⟩ : ∃ n, n = DA.length := ⟨_, rfl⟩
  rw [<- hna] at R0 ⊢
  obtain ⟨n, hn⟩ : ∃ n, n = DB.length := ⟨_, rfl⟩
  rw [<- hn] at R1 ⊢
  clear X hr hr2 hn hna ha
  go_enter Try.func16, Try.ntmps16
  go_wp2_with fail
  obtain ⟨q0, hq0⟩ : ∃ q, q = ((w.alloc (.cells #[.slice a0 na c0] 26)).alloc (.cells #[.slice a n c] 26)).alloc (.cells #[.slice none 0 0] 26) := ⟨_, rfl⟩
  have I0 : Hid (Mg3 w q0 (.slice a0 na c0) (.slice a n c)) := Lib.hid (by
    rw [hq0]
    refine ⟨?_, ?_, ?_, ?_, ?_, ?_⟩
    · rw [old_box (by simp <;> omega), old_box (by simp), new_at rfl]; rfl
    all_goals first | (rw [old_box (by simp), new_at (by simp)]; rfl; done) | (rw [new_at (by simp)]; rfl; done) | (rw [new_frz (by simp)]; done) | (simp; done) | go_grown)
  rw [<- hq0]
  clear hq0
  have c0_ := I0.out.c0
  have c1_ := I0.out.c1
  have r_ := I0.out.r
  have f_ := I0.out.f
  have size_ := I0.out.size
  have hw0_ : w.heap.size < q0.heap.size := by omega
  have hw1_ : w.heap.size + 1 < q0.heap.size := by omega
  have hw2_ : w.heap.size + 2 < q0.heap.size := by omega
  go_wp2_with fail
  go_at_call 20
  refine (idbok_any DA lo hi _ _ (R0.out.below I0.out.below hh) (by have := I0.out.size; omega)).mono ?_
  rw [HA.out]
  rintro e w1 ⟨rfl, hb1⟩
  have I1 : Hid (Mg3 w w1 (.slice a0 na c0) (.slice a n c)) := Lib.hid (I0.out.next (hb1.mono (I0.out.size)))
  clear c0_ c1_ r_ f_ size_ hw0_ hw1_ hw2_
  have c0_ := I1.out.c0
  have c1_ := I1.out.c1
  have r_ := I1.out.r
  have f_ := I1.out.f
  have size_ := I1.out.size
  have hw0_ : w.heap.size < w1.heap.size := by omega
  have hw1_ : w.heap.size + 1 < w1.heap.size := by omega
  have hw2_ : w.heap.size + 2 < w1.heap.size := by omega
  go_wp2_with fail
  go_at_call 49
  refine (idcopy_any DA lo hi _ _ (R0.out.below I1.out.below hh) (by have := I1.out.size; omega) hd).mono ?_
  rintro e w2 ⟨rv, rfl, hrow, hb2⟩
  have I2 : Hid (Mg3 w w2 (.slice a0 na c0) (.slice a n c)) := Lib.hid (I1.out.next (hb2.mono (I1.out.size)))
  clear c0_ c1_ r_ f_ size_ hw0_ hw1_ hw2_
  have HW := Lib.hid hrow
  obtain ⟨ra, rc, rfl⟩ := hrow.slice
  clear hrow
  obtain ⟨n9, hn9⟩ : ∃ n, n = DA.length := ⟨_, rfl⟩
  rw [<- hn9] at HW ⊢
  clear hn9
  have c0_ := I2.out.c0
  have c1_ := I2.out.c1
  have r_ := I2.out.r
  have f_ := I2.out.f
  have size_ := I2.out.size
  have hw0_ : w.heap.size < w2.heap.size := by omega
  have hw1_ : w.heap.size + 1 < w2.heap.size := by omega
  have hw2_ : w.heap.size + 2 < w2.heap.size := by omega
  go_wp2_with fail
  refine bodyPost_ret (v := .tuple #[.agg #[(.slice ra n9 rc)], .bool false]) (by simp [results, Try.results16, go_sem, *]) rfl (merP (.slice ra n9 rc) (by rw [HC.out]) ?_ ?_)
  · rw [HI.out]
    exact ((HW.out.setCell (.inl (by have := I1.out.size; simp <;> omega)) _).wide (by have := I1.out.size; omega) (by simp [World.setCell]))
  · exact (I2.out.below.setCell (by simp <;> omega) _)
set_option linter.unusedVariables false in
set_option maxRecDepth 100000 in
set_option maxHeartbeats 8000000 in
theorem imer_2 (DA DB : List Ls) (lo hi lo2 hi2 : Nat) (v v2 : Value) (w : World) (hr : DRow w lo hi v DA) (hr2 : DRow w lo2 hi2 v2 DB) (hh : hi <= w.heap.size) (hh2 : hi2 <= w.heap.size) (hd : dtot DA <= 1048576) (ha : dokB DA = true) (hb : dokB DB = false) :
    Calls Try.prog 16 #[.agg #[v], .agg #[v2]] w fun e w' => MerPost DA DB w e w' := by
  have HA := Lib.hid ha
  have HB := Lib.hid hb
  have HC : Hid (mokB DA DB = false) := Lib.hid (by unfold mokB; rw [hb]; simp)
  have HI : Hid (merg DA DB = DA) := Lib.hid (merg_no (.inr hb))
  have R0 := Lib.hid hr
  have R1 := Lib.hid hr2
  have hr' := hr2
  obtain ⟨a0, c0, e0⟩ := hr.slice
  subst e0
  obtain ⟨a, c, us, xs, bs, ev, X⟩ := hr'
  subst ev
  obtain ⟨na, hna⟩ : ∃ n, n = DA.length := ⟨_, rfl⟩
  rw [<- hna] at R0 ⊢
  obtain ⟨n, hn⟩ : ∃ n, n = DB.length := ⟨_, rfl⟩
  rw [<- hn] at R1 ⊢
  clear X hr hr2 hn hna ha hb
  go_enter Try.func16, Try.ntmps16
  go_wp2_with fail
  obtain ⟨q0, hq0⟩ : ∃ q, q = ((w.alloc (.cells #[.slice a0 na c0] 26)).alloc (.cells #[.slice a n c] 26)).alloc (.cells #[.slice none 0 0] 26) := ⟨_, rfl⟩
  have I0 : Hid (Mg3 w q0 (.slice a0 na c0) (.slice a n c)) := Lib.hid (by
    rw [hq0]
    refine ⟨?_, ?_, ?_, ?_, ?_, ?_⟩
    · rw [old_box (by simp <;> omega), old_box (by simp), new_at rfl]; rfl
    all_goals first | (rw [old_box (by simp), new_at (by simp)]; rfl; done) | (rw [new_at (by simp)]; rfl; done) | (rw [new_frz (by simp)]; done) | (simp; done) | go_grown)
  rw [<- hq0]
  clear hq0
  have c0_ := I0.out.c0
  have c1_ := I0.out.c1
  have r_ := I0.out.r
  have f_ := I0.out.f
  have size_ := I0.out.size
  have hw0_ : w.heap.size < q0.heap.size := by omega
  have hw1_ : w.heap.size + 1 < q0.heap.size := by omega
  have hw2_ : w.heap.size + 2 < q0.heap.size := by omega
  go_wp2_with fail
  go_at_call 20
  refine (idbok_any DA lo hi _ _ (R0.out.below I0.out.below hh) (by have := I0.out.size; omega)).mono ?_
  rw [HA.out]
  rintro e w1 ⟨rfl, hb1⟩
  have I1 : Hid (Mg3 w w1 (.slice a0 na c0) (.slice a n c)) := Lib.hid (I0.out.next (hb1.mono (I0.out.size)))
  clear c0_ c1_ r_ f_ size_ hw0_ hw1_ hw2_
  have c0_ := I1.out.c0
  have c1_ := I1.out.c1
  have r_ := I1.out.r
  have f_ := I1.out.f
  have size_ := I1.out.size
  have hw0_ : w.heap.size < w1.heap.size := by omega
  have hw1_ : w.heap.size + 1 < w1.heap.size := by omega
  have hw2_ : w.heap.size + 2 < w1.heap.size := by omega
  go_wp2_with fail
  go_at_call 20
  refine (idbok_any DB lo2 hi2 _ _ (R1.out.below I1.out.below hh2) (by have := I1.out.size; omega)).mono ?_
  rw [HB.out]
  rintro e w2 ⟨rfl, hb2⟩
  have I2 : Hid (Mg3 w w2 (.slice a0 na c0) (.slice a n c)) := Lib.hid (I1.out.next (hb2.mono (I1.out.size)))
  clear c0_ c1_ r_ f_ size_ hw0_ hw1_ hw2_
  have c0_ := I2.out.c0
  have c1_ := I2.out.c1
  have r_ := I2.out.r
  have f_ := I2.out.f
  have size_ := I2.out.size
  have hw0_ : w.heap.size < w2.heap.size := by omega
  have hw1_ : w.heap.size + 1 < w2.heap.size := by omega
  have hw2_ : w.heap.size + 2 < w2.heap.size := by omega
  go_wp2_with fail
  go_at_call 49
  refine (idcopy_any DA lo hi _ _ (R0.out.below I2.out.below hh) (by have := I2.out.size; omega) hd).mono ?_
  rintro e w3 ⟨rv, rfl, hrow, hb3⟩
  have I3 : Hid (Mg3 w w3 (.slice a0 na c0) (.slice a n c)) := Lib.hid (I2.out.next (hb3.mono (I2.out.size)))
  clear c0_ c1_ r_ f_ size_ hw0_ hw1_ hw2_
  have HW := Lib.hid hrow
  obtain ⟨ra, rc, rfl⟩ := hrow.slice
  clear hrow
  obtain ⟨n9, hn9⟩ : ∃ n, n = DA.length := ⟨_, rfl⟩
  rw [<- hn9] at HW ⊢
  clear hn9
  have c0_ := I3.out.c0
  have c1_ := I3.out.c1
  have r_ := I3.out.r
  have f_ := I3.out.f
  have size_ := I3.out.size
  have hw0_ : w.heap.size < w3.heap.size := by omega
  have hw1_ : w.heap.size + 1 < w3.heap.size := by omega
  have hw2_ : w.heap.size + 2 < w3.heap.size := by omega
  go_wp2_with fail
  refine bodyPost_ret (v := .tuple #[.agg #[(.slice ra n9 rc)], .bool false]) (by simp [results, Try.results16, go_sem, *]) rfl (merP (.slice ra n9 rc) (by rw [HC.out]) ?_ ?_)
  · rw [HI.out]
    exact ((HW.out.setCell (.inl (by have := I2.out.size; simp <;> omega)) _).wide (by have := I2.out.size; omega) (by simp [World.setCell]))
  · exact (I3.out.below.setCell (by simp <;> omega) _)
set_option linter.unusedVariables false in
set_option maxRecDepth 100000 in
set_option maxHeartbeats 8000000 in
theorem imer_3 (DA DB : List Ls) (lo hi lo2 hi2 : Nat) (v v2 : Value) (w : World) (hr : DRow w lo hi v DA) (hr2 : DRow w lo2 hi2 v2 DB) (hh : hi <= w.heap.size) (hh2 : hi2 <= w.heap.size) (ha : dokB DA = true) (hb : dokB DB = true) :
    Calls Try.prog 16 #[.agg #[v], .agg #[v2]] w fun e w' => MerPost DA DB w e w' := by
  have hn10 := dokB_len hb
  have HA := Lib.hid ha
  have HB := Lib.hid hb
  have HC : Hid (mokB DA DB = true) := Lib.hid (by unfold mokB; rw [ha, hb]; rfl)
  have HMO : Hid (∀ k, dokB (mg DA DB k) = true) := Lib.hid fun k => mg_ok ha DB k
  have HME : Hid (∀ k, DB.length <= k -> mg DA DB k = merg DA DB) := Lib.hid fun k hk => merg_mg ha hb hk
  have R0 := Lib.hid hr
  have R1 := Lib.hid hr2
  have hr' := hr2
  obtain ⟨a0, c0, e0⟩ := hr.slice
  subst e0
  obtain ⟨a, c, us, xs, bs, ev, X⟩ := hr'
  subst ev
  obtain ⟨na, hna⟩ : ∃ n, n = DA.length := ⟨_, rfl⟩
  rw [<- hna] at R0 ⊢
  obtain ⟨n, hn⟩ : ∃ n, n = DB.length := ⟨_, rfl⟩
  rw [<- hn] at R1 ⊢
  have HN := Lib.hid hn
  have HX := Lib.hid X
  clear X hr hr2 hn hna ha hb
  rw [<- HN.out] at hn10
  go_enter Try.func16, Try.ntmps16
  go_wp2_with fail
  obtain ⟨q0, hq0⟩ : ∃ q, q = ((w.alloc (.cells #[.slice a0 na c0] 26)).alloc (.cells #[.slice a n c] 26)).alloc (.cells #[.slice none 0 0] 26) := ⟨_, rfl⟩
  have I0 : Hid (Mg3 w q0 (.slice a0 na c0) (.slice a n c)) := Lib.hid (by
    rw [hq0]
    refine ⟨?_, ?_, ?_, ?_, ?_, ?_⟩
    · rw [old_box (by simp <;> omega), old_box (by simp), new_at rfl]; rfl
    all_goals first | (rw [old_box (by simp), new_at (by simp)]; rfl; done) | (rw [new_at (by simp)]; rfl; done) | (rw [new_frz (by simp)]; done) | (simp; done) | go_grown)
  rw [<- hq0]
  clear hq0
  have c0_ := I0.out.c0
  have c1_ := I0.out.c1
  have r_ := I0.out.r
  have f_ := I0.out.f
  have size_ := I0.out.size
  have hw0_ : w.heap.size < q0.heap.size := by omega
  have hw1_ : w.heap.size + 1 < q0.heap.size := by omega
  have hw2_ : w.heap.size + 2 < q0.heap.size := by omega
  go_wp2_with fail
  go_at_call 20
  refine (idbok_any DA lo hi _ _ (R0.out.below I0.out.below hh) (by have := I0.out.size; omega)).mono ?_
  rw [HA.out]
  rintro e w1 ⟨rfl, hb1⟩
  have I1 : Hid (Mg3 w w1 (.slice a0 na c0) (.slice a n c)) := Lib.hid (I0.out.next (hb1.mono (I0.out.size)))
  clear c0_ c1_ r_ f_ size_ hw0_ hw1_ hw2_
  have c0_ := I1.out.c0
  have c1_ := I1.out.c1
  have r_ := I1.out.r
  have f_ := I1.out.f
  have size_ := I1.out.size
  have hw0_ : w.heap.size < w1.heap.size := by omega
  have hw1_ : w.heap.size + 1 < w1.heap.size := by omega
  have hw2_ : w.heap.size + 2 < w1.heap.size := by omega
  go_wp2_with fail
  go_at_call 20
  refine (idbok_any DB lo2 hi2 _ _ (R1.out.below I1.out.below hh2) (by have := I1.out.size; omega)).mono ?_
  rw [HB.out]
  rintro e w2 ⟨rfl, hb2⟩
  have I2 : Hid (Mg3 w w2 (.slice a0 na c0) (.slice a n c)) := Lib.hid (I1.out.next (hb2.mono (I1.out.size)))
  clear c0_ c1_ r_ f_ size_ hw0_ hw1_ hw2_
  have c0_ := I2.out.c0
  have c1_ := I2.out.c1
  have r_ := I2.out.r
  have f_ := I2.out.f
  have size_ := I2.out.size
  have hw0_ : w.heap.size < w2.heap.size := by omega
  have hw1_ : w.heap.size + 1 < w2.heap.size := by omega
  have hw2_ : w.heap.size + 2 < w2.heap.size := by omega
  go_wp2_with fail
  go_at_call 50
  refine (shelf_any DA lo hi _ _ (R0.out.below I2.out.below hh) (by have := I2.out.size; omega) HA.out).mono ?_
  rintro e w3 ⟨rfl, hsh, hb3⟩
  have I3 : Hid (Mg3 w w3 (.slice a0 na c0) (.slice a n c)) := Lib.hid (I2.out.next (hb3.mono (I2.out.size)))
  clear c0_ c1_ r_ f_ size_ hw0_ hw1_ hw2_
  obtain ⟨m, hm⟩ : ∃ q, q = w2.heap.size + 1 := ⟨_, rfl⟩
  rw [<- hm] at hsh ⊢
  have hml := hsh.lt
  have HB3 : Hid (w.heap.size + 3 <= m) := Lib.hid (by have := I2.out.size; omega)
  have HB2 : Hid (w.heap.size <= w2.heap.size) := Lib.hid (by have := I2.out.size; omega)
  obtain ⟨B, hB⟩ : ∃ q, q = w2.heap.size := ⟨_, rfl⟩
  rw [<- hB] at hsh HB2
  have HSH : Hid (Shelf w3 m B (dfind (mg DA DB 0))) := Lib.hid (by rw [mg_zero]; exact hsh)
  clear hsh hB hm hml
  have c0_ := I3.out.c0
  have c1_ := I3.out.c1
  have r_ := I3.out.r
  have f_ := I3.out.f
  have size_ := I3.out.size
  have hw0_ : w.heap.size < w3.heap.size := by omega
  have hw1_ : w.heap.size + 1 < w3.heap.size := by omega
  have hw2_ : w.heap.size + 2 < w3.heap.size := by omega
  go_wp2
  clear c0_ c1_ r_ f_ size_ hw0_ hw1_ hw2_
  go_loopw [24] (fun i wr => ∃ k : Nat, k <= n /\ i = .int .i64 (k : Int) /\ Hid (Mg3 w wr (.slice a0 na c0) (.slice a n c)) /\ Hid (Shelf wr m B (dfind (mg DA DB k)))) (fun i _ => n - (intOf i).toNat)
  case atStart => exact ⟨0, Nat.zero_le _, rfl, I3, HSH⟩
  case round =>
    clear HSH I3
    obtain ⟨k, hk, rfl, hR, hS⟩ := hrel
    by_cases hlt : k < n
    · skip
      obtain ⟨p, hp⟩ : ∃ p, DB[k]? = some p := ⟨_, List.getElem?_eq_getElem (by have := HN.out; omega)⟩
      obtain ⟨G, rfl, g1, g2, _, g4, _⟩ := HX.out.outer (by have := HN.out; omega)
      have hc := (g4 k p hp).below hR.out.below (by omega)
      obtain ⟨i1, i2, i3'⟩ := HX.out.inner k p hp
      have RP := Lib.hid (i1.below hR.out.below (by omega))
      obtain ⟨x1, y1, x2, y2, e1, e2⟩ := i1.slice
      rw [e1, e2] at hc RP
      obtain ⟨d1, d2, d3, d4, d5⟩ := hc
      have hk0 : (0 : Int) <= (k : Int) := by omega
      have hk1 : (k : Int) < (n : Int) := by omega
      have hbz := hR.out.below.size
      have hGw : G < wr.heap.size := by omega
      obtain ⟨H0, hH0⟩ : ∃ q, q = (bs k).1 := ⟨_, rfl⟩
      obtain ⟨H1, hH1⟩ : ∃ q, q = (bs k).2 := ⟨_, rfl⟩
      have z1 : H1 <= wr.heap.size := by omega
      rw [<- hH0, <- hH1] at RP
      have Hp := Lib.hid hp
      have HPO := Lib.hid (dokB_get HB.out hp).1
      have c0 := hR.out.c0
      have c1 := hR.out.c1
      have hsz := hR.out.size
      have hsz0 : w.heap.size < wr.heap.size := by omega
      have hsz1 : w.heap.size + 1 < wr.heap.size := by omega
      have z2 : H1 <= w.heap.size := by omega
      clear i1 i2 i3' e1 e2 hH0 hH1 hp g4
      have hwb : Below wr.heap.size wr (wr.alloc (.cells #[.int .i64 p.o, .int .i64 p.s, .int .i64 p.g, .slice x1 p.K.length y1, .slice x2 p.T.length y2] 33)) := by go_grown
      have HWB := Lib.hid hwb
      have hml2 := hS.out.lt
      have HMK := Lib.hid (HMO.out k)
      have hB2 : H1 <= B := by have := HB2.out; omega
      have HST : Hid (mg DA DB (k + 1) = inst (mg DA DB k) p) := Lib.hid (mg_snoc Hp.out)
      obtain ⟨D, hD⟩ : ∃ D, D = mg DA DB k := ⟨_, rfl⟩
      rw [<- hD] at HMK hS HST
      clear hwb hD
      go_wp2_with fail
      go_at_call 51
      by_cases hc : codeF (dfind D p.o) p = 0
      · have HNX := Lib.hid (put_inst HMK.out HPO.out hc)
        refine (install_0 (dfind D) p m B H0 H1 _ _ _ (hS.out.below HWB.out hml2) (shok_dfind HMK.out) HPO.out (RP.out.below HWB.out z1) (by have := HWB.out.size; omega) hB2 hc).mono ?_
        clear hc
        rintro e w9 ⟨rfl, hsh2, he9⟩
        have HB9 : Hid (Below (w.heap.size + 3) wr w9) := Lib.hid ((HWB.out.mono (by omega)).trans (he9.below HB3.out (by have := HWB.out.size; omega)))
        have HS9 : Hid (Shelf w9 m B (dfind (mg DA DB (k + 1)))) := Lib.hid (by rw [HST.out, <- HNX.out]; exact hsh2)
        clear he9 hsh2
        go_wp2_with fail
        go_roundw
        case rel => exact ⟨k + 1, by omega, by go_num, Lib.hid (hR.out.next HB9.out), HS9⟩
        case measure => simp [intOf]; omega
      · have HNX := Lib.hid (same_inst HMK.out HPO.out hc)
        obtain ⟨z, hz⟩ : ∃ z, z = codeF (dfind D p.o) p := ⟨_, rfl⟩
        refine (install_1 (dfind D) p m B H0 H1 _ _ _ (hS.out.below HWB.out hml2) (shok_dfind HMK.out) HPO.out (RP.out.below HWB.out z1) (by have := HWB.out.size; omega) hc).mono ?_
        rw [<- hz]
        clear hc hz
        rintro e w9 ⟨rfl, hb9⟩
        have HB9 : Hid (Below wr.heap.size wr w9) := Lib.hid (HWB.out.trans (hb9.mono HWB.out.size))
        have HS9 : Hid (Shelf w9 m B (dfind (mg DA DB (k + 1)))) := Lib.hid (by rw [HST.out, HNX.out]; exact hS.out.below HB9.out hml2)
        clear hb9
        go_wp2_with fail
        go_roundw
        case rel => exact ⟨k + 1, by omega, by go_num, Lib.hid (hR.out.next (HB9.out.mono hsz)), HS9⟩
        case measure => simp [intOf]; omega
    · have hge : ¬ ((k : Int) < (n : Int)) := by omega
      have HI : Hid (mg DA DB k = merg DA DB) := Lib.hid (HME.out k (by have := HN.out; omega))
      have HMK := Lib.hid (HMO.out k)
      obtain ⟨D, hD⟩ : ∃ D, D = mg DA DB k := ⟨_, rfl⟩
      rw [<- hD] at HMK hS HI
      have HI := Lib.hid HI.out.symm
      clear hD
      have hsz := hR.out.size
      go_wp2_with fail
      go_at_call 52
      refine (idb_any (dfind D) m B _ hS.out (shok_dfind HMK.out)).mono ?_
      rintro e w5 ⟨rv, ss, rfl, s1, s2, hrow, hb5⟩
      rw [filt_dfind HMK.out s1 s2] at hrow
      have HW := Lib.hid hrow
      obtain ⟨ra, rc, rfl⟩ := hrow.slice
      have I5 : Hid (Mg3 w w5 (.slice a0 na c0) (.slice a n c)) := Lib.hid (hR.out.next (hb5.mono hsz))
      clear hrow s1 s2 hb5
      obtain ⟨n9, hn9⟩ : ∃ n, n = D.length := ⟨_, rfl⟩
      rw [<- hn9] at HW ⊢
      clear hn9
      have r_ := I5.out.r
      have f_ := I5.out.f
      have size_ := I5.out.size
      have hw2_ : w.heap.size + 2 < w5.heap.size := by omega
      go_wp2_with fail
      refine bodyPost_ret (v := .tuple #[.agg #[(.slice ra n9 rc)], .bool true]) (by simp [results, Try.results16, go_sem, *]) rfl (merP (.slice ra n9 rc) (by rw [HC.out]) ?_ ?_)
      · rw [HI.out]
        exact ((HW.out.setCell (.inl (by have := hR.out.size; simp <;> omega)) _).wide (by have := hR.out.size; omega) (by simp [World.setCell]))
      · exact (I5.out.below.setCell (by simp <;> omega) _)
theorem imer_any (DA DB : List Ls) (lo hi lo2 hi2 : Nat) (v v2 : Value) (w : World) (hr : DRow w lo hi v DA) (hr2 : DRow w lo2 hi2 v2 DB) (hh : hi <= w.heap.size) (hh2 : hi2 <= w.heap.size) (hd : dtot DA <= 1048576) :
    Calls Try.prog 16 #[.agg #[v], .agg #[v2]] w fun e w' => MerPost DA DB w e w' := by
  cases ha : dokB DA
  · exact imer_1 DA DB lo hi lo2 hi2 v v2 w hr hr2 hh hh2 hd ha
  · cases hb : dokB DB
    · exact imer_2 DA DB lo hi lo2 hi2 v v2 w hr hr2 hh hh2 hd ha hb
    · exact imer_3 DA DB lo hi lo2 hi2 v v2 w hr hr2 hh hh2 ha hb
end Go.Proofs.Ytfpafjdakipccaa
