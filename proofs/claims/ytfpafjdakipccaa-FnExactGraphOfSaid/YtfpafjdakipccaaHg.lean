/- The graph of a database: the specification. -/
import Derived.Test.YtfpafjdakipccaaIg
import Derived.Test.YtfpafjdakipccaaSy
import Derived.Test.YtfpafjdakipccaaWk
import Derived.Deep.DeepCutAuto
namespace Go.Proofs.Ytfpafjdakipccaa
open Go.RowKit


theorem rg4_keep {w w1 w2 : World} {b0 b1 b2 b3 o0 o1 o2 o3 : Nat} {v0 v1 v2 v3 : Value} (l0 : b0 < w.heap.size) (l1 : b1 < w.heap.size) (l2 : b2 < w.heap.size) (l3 : b3 < w.heap.size) (hb : Below w1.heap.size w1 w2) (h : w1.cell? ⟨b0, o0, none⟩ = some v0 ∧ w1.cell? ⟨b1, o1, none⟩ = some v1 ∧ w1.cell? ⟨b2, o2, none⟩ = some v2 ∧ w1.cell? ⟨b3, o3, none⟩ = some v3 ∧ w.heap.size ≤ w1.heap.size ∧ Below w.heap.size w w1) : w2.cell? ⟨b0, o0, none⟩ = some v0 ∧ w2.cell? ⟨b1, o1, none⟩ = some v1 ∧ w2.cell? ⟨b2, o2, none⟩ = some v2 ∧ w2.cell? ⟨b3, o3, none⟩ = some v3 ∧ w.heap.size ≤ w2.heap.size ∧ Below w.heap.size w w2 := by
  obtain ⟨h0, h1, h2, h3, hs, hB⟩ := h
  obtain ⟨hc, hf⟩ := bcell hb
  have hz := hb.size
  exact ⟨by rw [hc _ _ (by omega)]; exact h0, by rw [hc _ _ (by omega)]; exact h1, by rw [hc _ _ (by omega)]; exact h2, by rw [hc _ _ (by omega)]; exact h3, by omega, hB.trans (hb.mono (by omega))⟩
theorem rg4_drew {w w1 : World} {b0 b1 b2 b3 o0 o1 o2 o3 : Nat} {v0 v1 v2 v3 : Value} (h : w1.cell? ⟨b0, o0, none⟩ = some v0 ∧ w1.cell? ⟨b1, o1, none⟩ = some v1 ∧ w1.cell? ⟨b2, o2, none⟩ = some v2 ∧ w1.cell? ⟨b3, o3, none⟩ = some v3 ∧ w.heap.size ≤ w1.heap.size ∧ Below w.heap.size w w1) : w1.drew.cell? ⟨b0, o0, none⟩ = some v0 ∧ w1.drew.cell? ⟨b1, o1, none⟩ = some v1 ∧ w1.drew.cell? ⟨b2, o2, none⟩ = some v2 ∧ w1.drew.cell? ⟨b3, o3, none⟩ = some v3 ∧ w.heap.size ≤ w1.drew.heap.size ∧ Below w.heap.size w w1.drew := by
  obtain ⟨h0, h1, h2, h3, hs, hB⟩ := h
  exact ⟨h0, h1, h2, h3, hs, hB.drew⟩
theorem rg4_start {w : World} {b0 b1 b2 b3 o0 o1 o2 o3 : Nat} {v0 v1 v2 v3 : Value} (h0 : w.cell? ⟨b0, o0, none⟩ = some v0) (h1 : w.cell? ⟨b1, o1, none⟩ = some v1) (h2 : w.cell? ⟨b2, o2, none⟩ = some v2) (h3 : w.cell? ⟨b3, o3, none⟩ = some v3) : w.drew.cell? ⟨b0, o0, none⟩ = some v0 ∧ w.drew.cell? ⟨b1, o1, none⟩ = some v1 ∧ w.drew.cell? ⟨b2, o2, none⟩ = some v2 ∧ w.drew.cell? ⟨b3, o3, none⟩ = some v3 ∧ w.heap.size ≤ w.drew.heap.size ∧ Below w.heap.size w w.drew := ⟨h0, h1, h2, h3, Nat.le_refl _, (Below.refl _ _).drew⟩
theorem rg4_box {w w1 : World} {o : Obj} {b0 b1 b2 b3 o0 o1 o2 o3 : Nat} {v0 v1 v2 v3 : Value} (l0 : b0 < w.heap.size) (l1 : b1 < w.heap.size) (l2 : b2 < w.heap.size) (l3 : b3 < w.heap.size) (h : w1.cell? ⟨b0, o0, none⟩ = some v0 ∧ w1.cell? ⟨b1, o1, none⟩ = some v1 ∧ w1.cell? ⟨b2, o2, none⟩ = some v2 ∧ w1.cell? ⟨b3, o3, none⟩ = some v3 ∧ w.heap.size ≤ w1.heap.size ∧ Below w.heap.size w w1) : (w1.alloc o).cell? ⟨b0, o0, none⟩ = some v0 ∧ (w1.alloc o).cell? ⟨b1, o1, none⟩ = some v1 ∧ (w1.alloc o).cell? ⟨b2, o2, none⟩ = some v2 ∧ (w1.alloc o).cell? ⟨b3, o3, none⟩ = some v3 ∧ w.heap.size ≤ (w1.alloc o).heap.size ∧ Below w.heap.size w (w1.alloc o) :=
  rg4_keep l0 l1 l2 l3 ((Below.refl _ _).alloc (Nat.le_refl _) o) h
theorem rg4_out {w w1 : World} {b0 b1 b2 b3 o0 o1 o2 o3 : Nat} {v0 v1 v2 v3 : Value} (h : w1.cell? ⟨b0, o0, none⟩ = some v0 ∧ w1.cell? ⟨b1, o1, none⟩ = some v1 ∧ w1.cell? ⟨b2, o2, none⟩ = some v2 ∧ w1.cell? ⟨b3, o3, none⟩ = some v3 ∧ w.heap.size ≤ w1.heap.size ∧ Below w.heap.size w w1) : w.heap.size ≤ w1.heap.size ∧ Below w.heap.size w w1 := h.2.2.2.2

theorem cell_alloc {w : World} {b o : Nat} {v : Value} {p : Obj} (h : w.cell? ⟨b, o, none⟩ = some v) : (w.alloc p).cell? ⟨b, o, none⟩ = some v := by
  have := (lt_of_cell h).1
  rw [old_box this]; exact h
theorem gval_echk {E : List Ed} (h : gval E) : ∀ i, i < E.length → echk 10 E i = true := fun i hi => by
  have e := List.getElem?_eq_getElem hi
  have hm := h.1 _ (List.getElem_mem hi)
  have hk : eokB 10 (E[i]).1 (E[i]).2.1 (E[i]).2.2 = true := eokB_iff.2 ⟨⟨hm.1, by omega⟩, ⟨hm.2.2.1, by omega⟩, hm.2.2.2.2.1, hm.2.2.2.2.2.1, hm.2.2.2.2.2.2⟩
  rcases i with _ | i
  · rw [echk_at e, hk]; rfl
  · have e0 := List.getElem?_eq_getElem (show i < E.length by omega)
    rw [echk_prev e e0, hk, Bool.true_and]
    exact eahB_iff.2 (List.pairwise_iff_getElem.1 h.2 i (i + 1) (by omega) hi (by omega))
theorem gok_val {E : List Ed} (h : gval E) : gok 10 E = decide (E.length ≤ 60) := by
  by_cases h60 : E.length ≤ 60
  · rw [gok_yes (by omega) (by omega) h60 (gval_echk h), decide_eq_true h60]
  · rw [gok_big (by omega), decide_eq_false h60]

set_option linter.unusedVariables false in
set_option maxRecDepth 100000 in
set_option maxHeartbeats 8000000 in
theorem sgraph_1 (D : List Ls) (lo hi : Nat) (v : Value) (w : World) (hr : DRow w lo hi v D) (hh : hi ≤ w.heap.size) (hv : dokB D = false) :
    Calls Try.prog 42 #[.agg #[v]] w fun e w' => GPost D w e w' := by
  have HV := Lib.hid hv
  have HO : Hid (gfO D = false) := Lib.hid (by unfold gfO; rw [hv]; rfl)
  have R0 := Lib.hid hr
  have hr' := hr
  obtain ⟨a, c, us, xs, bs, ev, X⟩ := hr'
  subst ev
  obtain ⟨n, hn⟩ : ∃ n, n = D.length := ⟨_, rfl⟩
  rw [← hn] at R0 ⊢
  clear X hr hn hv
  go_enter Try.func42, Try.ntmps42
  go_wp2_with fail
  obtain ⟨q0, hq0⟩ : ∃ q, q = (w.alloc (.cells #[.slice a n c] 26)).alloc (.cells #[.int .i64 0, .slice none 0 0] 68) := ⟨_, rfl⟩
  have I0 : Hid (G2 w q0 (.slice a n c)) := Lib.hid (by
    rw [hq0]
    refine ⟨?_, ?_, ?_, ?_, ?_, ?_, ?_⟩
    all_goals first | (rw [old_box (by simp), new_at (by simp)]; rfl; done) | (rw [new_at (by simp)]; rfl; done) | (rw [new_frz (by simp)]; done) | (simp; done) | go_grown)
  rw [← hq0]
  clear hq0
  have c0_ := I0.out.c0
  have r0_ := I0.out.r0
  have r1_ := I0.out.r1
  have f0_ := I0.out.f0
  have f1_ := I0.out.f1
  have size_ := I0.out.size
  have hw0_ : w.heap.size < q0.heap.size := by omega
  have hw1_ : w.heap.size + 1 < q0.heap.size := by omega
  go_wp2_with fail
  go_at_call 14
  refine (sdbok_any D lo hi _ _ (R0.out.below I0.out.below hh) (by omega)).mono ?_
  rw [HV.out]
  rintro e w1 ⟨rfl, hb1⟩
  have I1 : Hid (G2 w w1 (.slice a n c)) := Lib.hid (I0.out.next (hb1.mono I0.out.size))
  clear hb1 c0_ r0_ r1_ f0_ f1_ size_ hw0_ hw1_
  have c0_ := I1.out.c0
  have r0_ := I1.out.r0
  have r1_ := I1.out.r1
  have f0_ := I1.out.f0
  have f1_ := I1.out.f1
  have size_ := I1.out.size
  have hw0_ : w.heap.size < w1.heap.size := by omega
  have hw1_ : w.heap.size + 1 < w1.heap.size := by omega
  go_wp2_with fail
  refine bodyPost_ret (v := .tuple #[.agg #[.int .i64 0, .slice none 0 0], .bool false]) (by simp [results, Try.results42, go_sem, *]) rfl (gP (.slice none 0 0) (by rw [HO.out, (gf_no HO.out).1]) ?_ ?_)
  · rw [(gf_no HO.out).2]; exact ⟨rfl, .inl ⟨rfl, none, 0, rfl⟩⟩
  · exact ((I1.out.below.setCell (by simp <;> omega) _).setCell (by simp <;> omega) _)

set_option linter.unusedVariables false in
set_option maxRecDepth 100000 in
set_option maxHeartbeats 8000000 in
theorem sgraph_2 (D : List Ls) (lo hi : Nat) (v : Value) (w : World) (hr : DRow w lo hi v D) (hh : hi ≤ w.heap.size) (hv : dokB D = true) :
    Calls Try.prog 42 #[.agg #[v]] w fun e w' => GPost D w e w' := by
  have HV := Lib.hid hv
  have hn10 := dokB_len hv
  have HGE : Hid (∀ k, D.length ≤ k → gpre D (D.take k) = gout D) := Lib.hid fun k h => gout_end h
  have HG1 : Hid (∀ k, (gpre D (D.take k)).length ≤ 100) := Lib.hid fun k => gpre_100 hv k
  have HOO : Hid (gfO D = decide ((gout D).length ≤ 60)) := Lib.hid (by unfold gfO; rw [hv]; rfl)
  have HGK : Hid (gok 10 (gout D) = gfO D) := Lib.hid (by rw [HOO.out]; exact gok_val (gout_val hv))
  obtain ⟨iE, hi0, hz0, hz1, hz2⟩ := info_parts Try.info105
  have IE := Lib.hid (And.intro hi0 (And.intro hz0 (And.intro hz1 hz2)))
  clear hi0 hz0 hz1 hz2
  have R0 := Lib.hid hr
  have hr' := hr
  obtain ⟨a, c, us, xs, bs, ev, X⟩ := hr'
  subst ev
  obtain ⟨n, hn⟩ : ∃ n, n = D.length := ⟨_, rfl⟩
  rw [← hn] at R0 ⊢
  have HN := Lib.hid hn
  have HX := Lib.hid X
  clear X hr hn hv
  rw [← HN.out] at hn10
  go_enter Try.func42, Try.ntmps42
  go_wp2_with fail
  obtain ⟨q0, hq0⟩ : ∃ q, q = (w.alloc (.cells #[.slice a n c] 26)).alloc (.cells #[.int .i64 0, .slice none 0 0] 68) := ⟨_, rfl⟩
  have I0 : Hid (G2 w q0 (.slice a n c)) := Lib.hid (by
    rw [hq0]
    refine ⟨?_, ?_, ?_, ?_, ?_, ?_, ?_⟩
    all_goals first | (rw [old_box (by simp), new_at (by simp)]; rfl; done) | (rw [new_at (by simp)]; rfl; done) | (rw [new_frz (by simp)]; done) | (simp; done) | go_grown)
  rw [← hq0]
  clear hq0
  have c0_ := I0.out.c0
  have r0_ := I0.out.r0
  have r1_ := I0.out.r1
  have f0_ := I0.out.f0
  have f1_ := I0.out.f1
  have size_ := I0.out.size
  have hw0_ : w.heap.size < q0.heap.size := by omega
  have hqb_ : w.heap.size + 1 < q0.heap.size := by omega
  go_wp2_with fail
  go_at_call 14
  refine (sdbok_any D lo hi _ _ (R0.out.below I0.out.below hh) (by omega)).mono ?_
  rw [HV.out]
  rintro e qb ⟨rfl, hb1⟩
  have I1 : Hid (G2 w qb (.slice a n c)) := Lib.hid (I0.out.next (hb1.mono I0.out.size))
  clear hb1 c0_ r0_ r1_ f0_ f1_ size_ hw0_ hqb_
  have HBX : Hid (Below qb.heap.size qb (qb.alloc (.cells #[.int .i64 10, .slice none 0 0] 68))) := Lib.hid ((Below.refl _ _).alloc (Nat.le_refl _) _)
  have HI0 := Lib.hid (I1.out.next (HBX.out.mono I1.out.size))
  have HGX := Lib.hid (GX.start qb)
  have HMX : Hid (w.heap.size + 2 ≤ qb.heap.size) := Lib.hid I1.out.size
  have c0_ := I1.out.c0
  have r0_ := I1.out.r0
  have r1_ := I1.out.r1
  have f0_ := I1.out.f0
  have f1_ := I1.out.f1
  have size_ := I1.out.size
  have hw0_ : w.heap.size < qb.heap.size := by omega
  have hw1_ : w.heap.size + 1 < qb.heap.size := by omega
  go_wp2
  clear c0_ r0_ r1_ f0_ f1_ size_ hw0_ hw1_ I0 I1 HBX
  go_loopw [5] (fun i wr => ∃ (k : Nat) (rv : Value), k ≤ n ∧ i = .int .i64 (k : Int) ∧ Hid (G2 w wr (.slice a n c)) ∧ Hid (GX qb wr rv (gpre D (D.take k)))) (fun i _ => n - (intOf i).toNat)
  case atStart => exact ⟨0, _, Nat.zero_le _, rfl, HI0, HGX⟩
  case round =>
    clear HI0 HGX
    obtain ⟨k, rv, hk, rfl, hR, hG⟩ := hrel
    by_cases hlt : k < n
    · skip
      obtain ⟨p, hp⟩ : ∃ p, D[k]? = some p := ⟨_, List.getElem?_eq_getElem (by have := HN.out; omega)⟩
      obtain ⟨G, rfl, g1, g2, _, g4, _⟩ := HX.out.outer (by have := HN.out; omega)
      have hc := (g4 k p hp).below hR.out.below (by omega)
      obtain ⟨i1, i2, i3'⟩ := HX.out.inner k p hp
      have RP := Lib.hid (i1.below hR.out.below (by omega))
      obtain ⟨x1, y1, x2, y2, e1, e2⟩ := i1.slice
      rw [e1, e2] at hc RP
      obtain ⟨d1, d2, d3, d4, d5⟩ := hc
      have hk0 : (0 : Int) ≤ (k : Int) := by omega
      have hk1 : (k : Int) < (n : Int) := by omega
      have hbz := hR.out.below.size
      have hGw : G < wr.heap.size := by omega
      obtain ⟨H0, hH0⟩ : ∃ q, q = (bs k).1 := ⟨_, rfl⟩
      obtain ⟨H1, hH1⟩ : ∃ q, q = (bs k).2 := ⟨_, rfl⟩
      have z1 : H1 ≤ wr.heap.size := by omega
      rw [← hH0, ← hH1] at RP
      have Hp := Lib.hid hp
      have HPO := Lib.hid (dokB_get HV.out hp).1
      have hsz := hR.out.size
      have hsz0 : w.heap.size < wr.heap.size := by omega
      have z2 : H1 ≤ w.heap.size := by omega
      have d0 := hR.out.c0
      clear i1 i2 i3' e1 e2 hH0 hH1 hp g4
      obtain ⟨wm, hwm⟩ : ∃ q, q = wr.alloc (.cells #[.int .i64 p.o, .int .i64 p.s, .int .i64 p.g, .slice x1 p.K.length y1, .slice x2 p.T.length y2] 33) := ⟨_, rfl⟩
      have hbm : Below wr.heap.size wr wm := by rw [hwm]; go_grown
      obtain ⟨b7, hb7⟩ : ∃ q, q = wr.heap.size := ⟨_, rfl⟩
      obtain ⟨a', c', ev, -, hcell⟩ := RP.out.fst.opened
      obtain ⟨rfl, rfl⟩ : a' = x1 ∧ c' = y1 := by simpa using ev.symm
      obtain ⟨nk, hnk⟩ : ∃ q, q = p.K.length := ⟨_, rfl⟩
      have hk10 : nk ≤ 10 := by rw [hnk]; exact (Ls.ok_bd HPO.out).2.2.2.2.2.2.1
      rw [← hnk] at hcell hwm
      have k7 : Hid (wm.cell? ⟨b7, 0, none⟩ = some (.int .i64 p.o) ∧ wm.cell? ⟨b7, 3, none⟩ = some (.slice a' nk c') ∧ b7 < wm.heap.size) := Lib.hid (by rw [hwm, hb7]; exact ⟨by rw [new_at rfl]; rfl, by rw [new_at rfl]; rfl, by simp⟩)
      have hRm := Lib.hid (hR.out.next (hbm.mono hR.out.size))
      have hGm := Lib.hid (hG.out.grow hbm)
      have hOm : Hid (rv.ownBlock ≠ some b7) := Lib.hid fun q => by have := (hG.out.own.row.lt b7 q).2; omega
      have HNK := Lib.hid hnk
      have HC2 : Hid (0 < nk → ∃ g, a' = some ⟨g, 0, none⟩ ∧ g < w.heap.size ∧ ∀ q z, (flat2 p.K)[q]? = some z → w.cell? ⟨g, q, none⟩ = some (.int .i64 z)) := Lib.hid fun h => by
        obtain ⟨g, h1, h2, h3⟩ := hcell h
        have hgw : g < w.heap.size := by omega
        exact ⟨g, h1, hgw, fun q z hz => ((hR.out.below.cell (p := ⟨g, q, none⟩) hgw).symm).trans (h3 q z hz)⟩
      have HL0 : Hid (gpre D (D.take k) ++ gel D p.o (p.K.take 0) = gpre D (D.take k)) := Lib.hid (by rw [List.take_zero]; simp [gel])
      have HLN : Hid (gpre D (D.take k) ++ gel D p.o p.K = gpre D (D.take (k + 1))) := Lib.hid (gpre_snoc Hp.out).symm
      have HGL : Hid (∀ j, (gpre D (D.take k) ++ gel D p.o (p.K.take j)).length ≤ 110) := Lib.hid fun j => by
        have h1 := HG1.out k
        have h2 := gel_len D p.o (p.K.take j)
        rw [List.length_take] at h2
        rw [List.length_append]
        have := HNK.out
        omega
      have hXb : qb.heap.size < b7 := by rw [hb7]; exact hG.out.hx
      go_upto_region 8 with (fail)
      rw [← hnk, ← hwm, ← hb7]
      clear hcell RP hR hG hbm hwm hb7 d1 d2 d3 d4 d5 d0 hsz hsz0 z1 z2 hnk hbz hGw
      go_wp2_with fail
      go_loopw [7] (fun i wx => ∃ (j : Nat) (rv : Value), j ≤ nk ∧ i = .int .i64 (j : Int) ∧ Hid (G2 w wx (.slice (some ⟨G, 0, none⟩) n c)) ∧ Hid (GX qb wx rv (gpre D (D.take k) ++ gel D p.o (p.K.take j))) ∧ Hid (wx.cell? ⟨b7, 0, none⟩ = some (.int .i64 p.o) ∧ wx.cell? ⟨b7, 3, none⟩ = some (.slice a' nk c') ∧ b7 < wx.heap.size) ∧ Hid (rv.ownBlock ≠ some b7)) (fun i _ => nk - (intOf i).toNat)
      case atStart => exact ⟨0, _, Nat.zero_le _, rfl, hRm, Lib.hid (by rw [HL0.out]; exact hGm.out), k7, hOm⟩
      case round =>
        clear hRm hGm k7 hOm
        obtain ⟨j, rv, hj, rfl, hR, hG, hB7, hO⟩ := hrel
        have k73 := hB7.out.2.1
        have k7z := hB7.out.2.2
        by_cases hlj : j < nk
        · obtain ⟨g, rfl, hgw, hcell⟩ := HC2.out (by omega)
          obtain ⟨r, hrk⟩ : ∃ r, p.K[j]? = some r := ⟨p.K[j]'(by have := HNK.out; omega), List.getElem?_eq_getElem _⟩
          obtain ⟨r0, r1⟩ := flat2_at p.K j _ hrk
          have s0 : wr.cell? ⟨g, j * 2, none⟩ = some (.int .i64 r.1) := (hR.out.below.cell (p := ⟨g, j * 2, none⟩) hgw).trans (hcell _ _ r0)
          have HRK := Lib.hid hrk
          have HS1 : Hid (∀ wx : World, Below w.heap.size w wx → wx.cell? ⟨g, j * 2, none⟩ = some (.int .i64 r.1) ∧ wx.cell? ⟨g, j * 2 + 1, none⟩ = some (.int .i64 r.2)) := Lib.hid fun wx hb => ⟨(hb.cell (p := ⟨g, j * 2, none⟩) hgw).trans (hcell _ _ r0), (hb.cell (p := ⟨g, j * 2 + 1, none⟩) hgw).trans (hcell _ _ r1)⟩
          have j0 : (0 : Int) ≤ (j : Int) := by omega
          have j1 : (j : Int) < (nk : Int) := by omega
          have k70 := hB7.out.1
          have cdb := hR.out.c0
          have hwr := hR.out.size
          have hgz : g < wr.heap.size := by omega
          have hwz : w.heap.size < wr.heap.size := by omega
          clear r0 r1 hrk hcell
          obtain ⟨sb, hsb⟩ : ∃ b, b = says D r.1 p.o := ⟨_, rfl⟩
          have HSB := Lib.hid hsb.symm
          clear hsb
          go_wp2_with fail
          go_region_held3 (fun w' => w'.cell? ⟨w.heap.size, 0, none⟩ = some (.slice (some ⟨G, 0, none⟩) n c) ∧ w'.cell? ⟨b7, 0, none⟩ = some (.int .i64 p.o) ∧ w'.cell? ⟨b7, 3, none⟩ = some (.slice (some ⟨g, 0, none⟩) nk c') ∧ w'.cell? ⟨g, j * 2, none⟩ = some (.int .i64 r.1) ∧ wr.heap.size ≤ w'.heap.size ∧ Below wr.heap.size wr w') (first | assumption | exact rg4_start cdb k70 k73 s0 | exact rg4_drew (by assumption) | exact rg4_keep (by omega) (by omega) (by omega) (by omega) (by assumption) (by assumption) | fail)
            (first | (go_at_call 80; refine (ssays_any D r.1 p.o lo hi _ _ (R0.out.below (hR.out.below.trans ((rg4_out (by assumption)).2.mono (by omega))) hh) (by have := (rg4_out (by assumption)).1; omega) HV.out).mono ?_; rw [HSB.out]; rintro e w9 ⟨rfl, hb⟩) | fail)
          have hb9 : Below wr.heap.size wr w9 := (rg4_out (by assumption)).2
          have hR9 := Lib.hid (hR.out.next (hb9.mono hR.out.size))
          have HG9 := Lib.hid (hG.out.grow hb9)
          have k9 : w9.cell? ⟨b7, 0, none⟩ = some (.int .i64 p.o) := ((bcell hb9).1 _ _ k7z).trans k70
          have k93 : w9.cell? ⟨b7, 3, none⟩ = some (.slice (some ⟨g, 0, none⟩) nk c') := ((bcell hb9).1 _ _ k7z).trans k73
          have k9z : b7 < w9.heap.size := Nat.lt_of_lt_of_le k7z hb9.size
          have hg9 : g < w9.heap.size := Nat.lt_of_lt_of_le hgz hb9.size
          clear hb9 hR hG hB7 k73 k7z k70 cdb s0
          clear hb
          cases sb
          · have HGN := Lib.hid (gel_no HRK.out HSB.out)
            have kk : Hid (w9.cell? ⟨b7, 0, none⟩ = some (.int .i64 p.o) ∧ w9.cell? ⟨b7, 3, none⟩ = some (.slice (some ⟨g, 0, none⟩) nk c') ∧ b7 < w9.heap.size) := Lib.hid ⟨k9, k93, k9z⟩
            go_wp2_with fail
            go_roundw
            case rel => exact ⟨j + 1, _, by omega, by go_num, hR9, Lib.hid (by rw [HGN.out]; exact HG9.out), kk, hO⟩
            case measure => simp [intOf]; omega
          · have HGN := Lib.hid (gel_yes HRK.out HSB.out)
            obtain ⟨s09, s19⟩ := HS1.out w9 hR9.out.below
            obtain ⟨L, hL⟩ : ∃ L, L = gpre D (D.take k) ++ gel D p.o (p.K.take j) := ⟨_, rfl⟩
            have HLE : Hid (L ++ [(p.o, r.1, r.2)] = gpre D (D.take k) ++ gel D p.o (p.K.take (j + 1))) := Lib.hid (by rw [HGN.out, hL, List.append_assoc])
            have hll : L.length ≤ 110 := by rw [hL]; exact HGL.out j
            rw [← hL] at HG9
            have HG9 : Hid (GX qb w9.drew rv L) := Lib.hid (HG9.out.grow (Below.refl _ _).drew)
            obtain ⟨ya, yc, erv⟩ := HG9.out.own.slice
            subst erv
            obtain ⟨yn, hyn⟩ : ∃ q, q = L.length := ⟨_, rfl⟩
            rw [← hyn] at HG9 hll hO
            have HYN := Lib.hid hyn
            have HWo : Hid (w9.drew.ownsRow qb.heap.size 105 3 (.slice ya yn yc) yn (ints (flat L))) := Lib.hid (by have h := HG9.out.own.row; rw [← hyn] at h; exact h)
            have hOg : Hid ((Value.slice ya yn yc).ownBlock ≠ some g) := Lib.hid fun q => by have h1 := (HWo.out.lt g q).1; have h2 := HMX.out; omega
            have y1 : w9.cell? ⟨qb.heap.size, 1, none⟩ = some (.slice ya yn yc) := HG9.out.x1
            have yx : qb.heap.size < w9.heap.size := HG9.out.hx
            have hmx := HMX.out
            clear hL hyn
            go_wp2_with fail
            refine wp_region_held_drew (S := (fun w' => w'.cell? ⟨b7, 0, none⟩ = some (.int .i64 p.o) ∧ w'.cell? ⟨b7, 3, none⟩ = some (.slice (some ⟨g, 0, none⟩) nk c') ∧ w'.cell? ⟨g, j * 2, none⟩ = some (.int .i64 r.1) ∧ w'.cell? ⟨g, j * 2 + 1, none⟩ = some (.int .i64 r.2))) (by kernel_rfl) ?_ (fun hHeld => ?_)
            · exact ⟨k9, k93, s09, s19⟩
            refine step_read 0 42 rfl rfl (by kernel_rfl) (by kernel_rfl) (by kernel_rfl) (fun _ _ _ h => h) (by rfl) (v := ?_) (fun w hSw => ?_) (by assumption) ?_; rotate_left; (focus ((try dsimp only at hSw); go_simp; first | done | exact rfl)); simp only [List.set]
            refine step_read 2 44 rfl rfl (by kernel_rfl) (by kernel_rfl) (by kernel_rfl) (fun _ _ _ h => h) (by rfl) (v := ?_) (fun w hSw => ?_) (by assumption) ?_; rotate_left; (focus ((try dsimp only at hSw); go_simp; first | done | exact rfl)); simp only [List.set]
            refine step_read 3 45 rfl rfl (by kernel_rfl) (by kernel_rfl) (by kernel_rfl) (fun _ _ _ h => h) (by rfl) (v := ?_) (fun w hSw => ?_) (by assumption) ?_; rotate_left; (focus ((try dsimp only at hSw); go_simp; first | done | exact rfl)); simp only [List.set]
            refine step_read 4 46 rfl rfl (by kernel_rfl) (by kernel_rfl) (by kernel_rfl) (fun _ _ _ h => h) (by rfl) (v := ?_) (fun w hSw => ?_) (by assumption) ?_; rotate_left; (focus ((try dsimp only at hSw); go_simp; first | done | exact rfl)); simp only [List.set]
            refine step_read 5 47 rfl rfl (by kernel_rfl) (by kernel_rfl) (by kernel_rfl) (fun _ _ _ h => h) (by rfl) (v := ?_) (fun w hSw => ?_) (by assumption) ?_; rotate_left; (focus ((try dsimp only at hSw); go_simp; first | done | exact rfl)); simp only [List.set]
            refine step_read 6 48 rfl rfl (by kernel_rfl) (by kernel_rfl) (by kernel_rfl) (fun _ _ _ h => h) (by rfl) (v := ?_) (fun w hSw => ?_) (by assumption) ?_; rotate_left; (focus ((try dsimp only at hSw); go_simp; first | done | exact rfl)); simp only [List.set]
            refine step_read 7 49 rfl rfl (by kernel_rfl) (by kernel_rfl) (by kernel_rfl) (fun _ _ _ h => h) (by rfl) (v := ?_) (fun w hSw => ?_) (by assumption) ?_; rotate_left; (focus ((try dsimp only at hSw); go_simp; first | done | exact rfl)); simp only [List.set]
            refine step_read 8 50 rfl rfl (by kernel_rfl) (by kernel_rfl) (by kernel_rfl) (fun _ _ _ h => h) (by rfl) (v := ?_) (fun w hSw => ?_) (by assumption) ?_; rotate_left; (focus ((try dsimp only at hSw); go_simp; first | done | exact rfl)); simp only [List.set]
            refine step_read 9 51 rfl rfl (by kernel_rfl) (by kernel_rfl) (by kernel_rfl) (fun _ _ _ h => h) (by rfl) (v := ?_) (fun w hSw => ?_) (by assumption) ?_; rotate_left; (focus ((try dsimp only at hSw); go_simp; first | done | exact rfl)); simp only [List.set]
            refine step_read 10 52 rfl rfl (by kernel_rfl) (by kernel_rfl) (by kernel_rfl) (fun _ _ _ h => h) (by rfl) (v := ?_) (fun w hSw => ?_) (by assumption) ?_; rotate_left; (focus ((try dsimp only at hSw); go_simp; first | done | exact rfl)); simp only [List.set]
            refine step_read 11 53 rfl rfl (by kernel_rfl) (by kernel_rfl) (by kernel_rfl) (fun _ _ _ h => h) (by rfl) (v := ?_) (fun w hSw => ?_) (by assumption) ?_; rotate_left; (focus ((try dsimp only at hSw); go_simp; first | done | exact rfl)); simp only [List.set]
            refine step_read 12 54 rfl rfl (by kernel_rfl) (by kernel_rfl) (by kernel_rfl) (fun _ _ _ h => h) (by rfl) (v := ?_) (fun w hSw => ?_) (by assumption) ?_; rotate_left; (focus ((try dsimp only at hSw); go_simp; first | done | exact rfl)); simp only [List.set]
            refine step_read 13 55 rfl rfl (by kernel_rfl) (by kernel_rfl) (by kernel_rfl) (fun _ _ _ h => h) (by rfl) (v := ?_) (fun w hSw => ?_) (by assumption) ?_; rotate_left; (focus ((try dsimp only at hSw); go_simp; first | done | exact rfl)); simp only [List.set]
            refine step_read 14 56 rfl rfl (by kernel_rfl) (by kernel_rfl) (by kernel_rfl) (fun _ _ _ h => h) (by rfl) (v := ?_) (fun w hSw => ?_) (by assumption) ?_; rotate_left; (focus ((try dsimp only at hSw); go_simp; first | done | exact rfl)); simp only [List.set]
            refine step_read 15 57 rfl rfl (by kernel_rfl) (by kernel_rfl) (by kernel_rfl) (fun _ _ _ h => h) (by rfl) (v := ?_) (fun w hSw => ?_) (by assumption) ?_; rotate_left; (focus ((try dsimp only at hSw); go_simp; first | done | exact rfl)); simp only [List.set]
            refine wpAnyH_ready (rs := [1, 16]) (by kernel_rfl) (by simp) ?_
            refine AllReadyH.cons rfl (fun Kc hK => ?_) (AllReadyH.cons rfl (fun Kc hK => ?_) (AllReadyH.nil))
            · go_simp
              refine hK.out _ _ ?_ (fun hHeld => ?_)
              · exact hHeld
              clear hK Kc
              refine wpAnyH_ready (rs := [16]) (by kernel_rfl) (by simp) ?_
              refine AllReadyH.cons rfl (fun Kc hK => ?_) (AllReadyH.nil)
              go_simp
              refine hK.out _ _ ?_ (fun hHeld => ?_)
              · exact hHeld
              clear hK Kc
              refine wpAnyH_ready (rs := [17]) (by kernel_rfl) (by simp) ?_
              refine AllReadyH.cons rfl (fun Kc hK => ?_) (AllReadyH.nil)
              go_simp
              refine hK.out _ _ ?_ (fun hHeld => ?_)
              · exact ⟨cell_alloc hHeld.1, cell_alloc hHeld.2.1, cell_alloc hHeld.2.2.1, cell_alloc hHeld.2.2.2⟩
              clear hK Kc
              refine wpAnyH_ready (rs := [18]) (by kernel_rfl) (by simp) ?_
              refine AllReadyH.cons rfl (fun Kc hK => ?_) (AllReadyH.nil)
              refine step_append_lies _ rfl _ _ 66 rfl qb.heap.size 105 iE (.agg #[.int .i64 0, .int .i64 0, .int .i64 0]) 3 24 Try.underlying66 IE.out.1 IE.out.2.1 IE.out.2.2.1 IE.out.2.2.2 rfl (by decide) (.slice ya yn yc) yn (ints (flat L)) rfl (HWo.out.alloc _) ⟨w9.heap.size, 0, none⟩ 1 1 [.int .i64 p.o, .int .i64 r.1, .int .i64 r.2] rfl rfl (fun j u hj => cell_three_new w9.drew _ _ _ 105 j u hj) (ints_one3 _ _ _) (by decide) (by unfold maxLen; omega) (by omega) (by have := HG9.out.hx; simp; omega) _ rfl ?_
              intro g4 cap4 w4 hown4 hgrow4 hat4 hlt4
              obtain ⟨u1, u2, u3, u4, u5, u7, u6⟩ := HG9.out.app (wb := w9.drew) (by rw [HYN.out]) hgrow4 hown4 hat4
              have m1 : w4.cell? ⟨b7, 0, none⟩ = some (.int .i64 p.o) := (World.cell?_of_block (w := w9) (a := ⟨b7, 0, none⟩) (u4 _ k9z hO.out)).trans k9
              have m2 : w4.cell? ⟨b7, 3, none⟩ = some (.slice (some ⟨g, 0, none⟩) nk c') := (World.cell?_of_block (w := w9) (a := ⟨b7, 3, none⟩) (u4 _ k9z hO.out)).trans k93
              have m3 : w4.cell? ⟨g, j * 2, none⟩ = some (.int .i64 r.1) := (World.cell?_of_block (w := w9) (a := ⟨g, j * 2, none⟩) (u4 _ hg9 hOg.out)).trans s09
              have m4 : w4.cell? ⟨g, j * 2 + 1, none⟩ = some (.int .i64 r.2) := (World.cell?_of_block (w := w9) (a := ⟨g, j * 2 + 1, none⟩) (u4 _ hg9 hOg.out)).trans s19
              go_simp
              refine hK.out _ _ ?_ (fun hHeld => ?_)
              · exact ⟨m1, m2, m3, m4⟩
              clear hK Kc
              refine step_read 19 61 rfl rfl (by kernel_rfl) (by kernel_rfl) (by kernel_rfl) (fun _ _ _ h => h) (by rfl) (v := ?_) (fun w hSw => ?_) (by assumption) ?_; rotate_left; (focus ((try dsimp only at hSw); go_simp; first | done | exact rfl)); simp only [List.set]
              refine wpAnyH_ready (rs := [20]) (by kernel_rfl) (by simp) ?_
              refine AllReadyH.cons rfl (fun Kc hK => ?_) (AllReadyH.nil)
              go_simp
              refine hK.out _ _ ?_ (fun hHeld => ?_)
              · exact ⟨by rw [World.cell?_setCell_other _ _ _ _ (by simp <;> omega)]; exact m1, by rw [World.cell?_setCell_other _ _ _ _ (by simp <;> omega)]; exact m2, by rw [World.cell?_setCell_other _ _ _ _ (by simp <;> omega)]; exact m3, by rw [World.cell?_setCell_other _ _ _ _ (by simp <;> omega)]; exact m4⟩
              clear hK Kc
              refine wpAnyH_done (by kernel_rfl) ?_ _
              have kk : Hid ((w4.setCell ⟨qb.heap.size, 1, none⟩ (.slice (some ⟨g4, 0, none⟩) (yn + 1) cap4)).cell? ⟨b7, 0, none⟩ = some (.int .i64 p.o) ∧ (w4.setCell ⟨qb.heap.size, 1, none⟩ (.slice (some ⟨g4, 0, none⟩) (yn + 1) cap4)).cell? ⟨b7, 3, none⟩ = some (.slice (some ⟨g, 0, none⟩) nk c') ∧ b7 < (w4.setCell ⟨qb.heap.size, 1, none⟩ (.slice (some ⟨g4, 0, none⟩) (yn + 1) cap4)).heap.size) := Lib.hid ⟨hHeld.1, hHeld.2.1, by simp [World.setCell]; exact Nat.lt_of_lt_of_le k9z u5⟩
              have hO4 : Hid ((Value.slice (some ⟨g4, 0, none⟩) (yn + 1) cap4).ownBlock ≠ some b7) := Lib.hid fun q => by
                have e : g4 = b7 := by simpa [Value.ownBlock] using q
                rcases hat4 with h | h
                · exact hO.out (by rw [h, e])
                · simp at h; omega
              have hR4 := Lib.hid (hR9.out.next (Below.trans (show Below (w.heap.size + 2) w9 w9.drew from (Below.refl _ _).drew) (u7.mono HMX.out)))
              have HG4 : Hid (GX qb (w4.setCell ⟨qb.heap.size, 1, none⟩ (.slice (some ⟨g4, 0, none⟩) (yn + 1) cap4)) (.slice (some ⟨g4, 0, none⟩) (yn + 1) cap4) (gpre D (D.take k) ++ gel D p.o (p.K.take (j + 1)))) := Lib.hid (by rw [← HLE.out]; exact u6)
              clear u1 u2 u3 u4 u5 u6 u7 hown4 hgrow4 hat4 hlt4 m1 m2 m3 m4 hHeld
              go_wp2_with fail
              go_roundw
              case rel => exact ⟨j + 1, _, by omega, by go_num, hR4, HG4, kk, hO4⟩
              case measure => simp [intOf]; omega
            · go_simp
              refine hK.out _ _ ?_ (fun hHeld => ?_)
              · exact hHeld
              clear hK Kc
              refine wpAnyH_ready (rs := [1, 17]) (by kernel_rfl) (by simp) ?_
              refine AllReadyH.cons rfl (fun Kc hK => ?_) (AllReadyH.cons rfl (fun Kc hK => ?_) (AllReadyH.nil))
              · go_simp
                refine hK.out _ _ ?_ (fun hHeld => ?_)
                · exact hHeld
                clear hK Kc
                refine wpAnyH_ready (rs := [17]) (by kernel_rfl) (by simp) ?_
                refine AllReadyH.cons rfl (fun Kc hK => ?_) (AllReadyH.nil)
                go_simp
                refine hK.out _ _ ?_ (fun hHeld => ?_)
                · exact ⟨cell_alloc hHeld.1, cell_alloc hHeld.2.1, cell_alloc hHeld.2.2.1, cell_alloc hHeld.2.2.2⟩
                clear hK Kc
                refine wpAnyH_ready (rs := [18]) (by kernel_rfl) (by simp) ?_
                refine AllReadyH.cons rfl (fun Kc hK => ?_) (AllReadyH.nil)
                refine step_append_lies _ rfl _ _ 66 rfl qb.heap.size 105 iE (.agg #[.int .i64 0, .int .i64 0, .int .i64 0]) 3 24 Try.underlying66 IE.out.1 IE.out.2.1 IE.out.2.2.1 IE.out.2.2.2 rfl (by decide) (.slice ya yn yc) yn (ints (flat L)) rfl (HWo.out.alloc _) ⟨w9.heap.size, 0, none⟩ 1 1 [.int .i64 p.o, .int .i64 r.1, .int .i64 r.2] rfl rfl (fun j u hj => cell_three_new w9.drew _ _ _ 105 j u hj) (ints_one3 _ _ _) (by decide) (by unfold maxLen; omega) (by omega) (by have := HG9.out.hx; simp; omega) _ rfl ?_
                intro g4 cap4 w4 hown4 hgrow4 hat4 hlt4
                obtain ⟨u1, u2, u3, u4, u5, u7, u6⟩ := HG9.out.app (wb := w9.drew) (by rw [HYN.out]) hgrow4 hown4 hat4
                have m1 : w4.cell? ⟨b7, 0, none⟩ = some (.int .i64 p.o) := (World.cell?_of_block (w := w9) (a := ⟨b7, 0, none⟩) (u4 _ k9z hO.out)).trans k9
                have m2 : w4.cell? ⟨b7, 3, none⟩ = some (.slice (some ⟨g, 0, none⟩) nk c') := (World.cell?_of_block (w := w9) (a := ⟨b7, 3, none⟩) (u4 _ k9z hO.out)).trans k93
                have m3 : w4.cell? ⟨g, j * 2, none⟩ = some (.int .i64 r.1) := (World.cell?_of_block (w := w9) (a := ⟨g, j * 2, none⟩) (u4 _ hg9 hOg.out)).trans s09
                have m4 : w4.cell? ⟨g, j * 2 + 1, none⟩ = some (.int .i64 r.2) := (World.cell?_of_block (w := w9) (a := ⟨g, j * 2 + 1, none⟩) (u4 _ hg9 hOg.out)).trans s19
                go_simp
                refine hK.out _ _ ?_ (fun hHeld => ?_)
                · exact ⟨m1, m2, m3, m4⟩
                clear hK Kc
                refine step_read 19 61 rfl rfl (by kernel_rfl) (by kernel_rfl) (by kernel_rfl) (fun _ _ _ h => h) (by rfl) (v := ?_) (fun w hSw => ?_) (by assumption) ?_; rotate_left; (focus ((try dsimp only at hSw); go_simp; first | done | exact rfl)); simp only [List.set]
                refine wpAnyH_ready (rs := [20]) (by kernel_rfl) (by simp) ?_
                refine AllReadyH.cons rfl (fun Kc hK => ?_) (AllReadyH.nil)
                go_simp
                refine hK.out _ _ ?_ (fun hHeld => ?_)
                · exact ⟨by rw [World.cell?_setCell_other _ _ _ _ (by simp <;> omega)]; exact m1, by rw [World.cell?_setCell_other _ _ _ _ (by simp <;> omega)]; exact m2, by rw [World.cell?_setCell_other _ _ _ _ (by simp <;> omega)]; exact m3, by rw [World.cell?_setCell_other _ _ _ _ (by simp <;> omega)]; exact m4⟩
                clear hK Kc
                refine wpAnyH_done (by kernel_rfl) ?_ _
                have kk : Hid ((w4.setCell ⟨qb.heap.size, 1, none⟩ (.slice (some ⟨g4, 0, none⟩) (yn + 1) cap4)).cell? ⟨b7, 0, none⟩ = some (.int .i64 p.o) ∧ (w4.setCell ⟨qb.heap.size, 1, none⟩ (.slice (some ⟨g4, 0, none⟩) (yn + 1) cap4)).cell? ⟨b7, 3, none⟩ = some (.slice (some ⟨g, 0, none⟩) nk c') ∧ b7 < (w4.setCell ⟨qb.heap.size, 1, none⟩ (.slice (some ⟨g4, 0, none⟩) (yn + 1) cap4)).heap.size) := Lib.hid ⟨hHeld.1, hHeld.2.1, by simp [World.setCell]; exact Nat.lt_of_lt_of_le k9z u5⟩
                have hO4 : Hid ((Value.slice (some ⟨g4, 0, none⟩) (yn + 1) cap4).ownBlock ≠ some b7) := Lib.hid fun q => by
                  have e : g4 = b7 := by simpa [Value.ownBlock] using q
                  rcases hat4 with h | h
                  · exact hO.out (by rw [h, e])
                  · simp at h; omega
                have hR4 := Lib.hid (hR9.out.next (Below.trans (show Below (w.heap.size + 2) w9 w9.drew from (Below.refl _ _).drew) (u7.mono HMX.out)))
                have HG4 : Hid (GX qb (w4.setCell ⟨qb.heap.size, 1, none⟩ (.slice (some ⟨g4, 0, none⟩) (yn + 1) cap4)) (.slice (some ⟨g4, 0, none⟩) (yn + 1) cap4) (gpre D (D.take k) ++ gel D p.o (p.K.take (j + 1)))) := Lib.hid (by rw [← HLE.out]; exact u6)
                clear u1 u2 u3 u4 u5 u6 u7 hown4 hgrow4 hat4 hlt4 m1 m2 m3 m4 hHeld
                go_wp2_with fail
                go_roundw
                case rel => exact ⟨j + 1, _, by omega, by go_num, hR4, HG4, kk, hO4⟩
                case measure => simp [intOf]; omega
              · go_simp
                refine hK.out _ _ ?_ (fun hHeld => ?_)
                · exact ⟨cell_alloc hHeld.1, cell_alloc hHeld.2.1, cell_alloc hHeld.2.2.1, cell_alloc hHeld.2.2.2⟩
                clear hK Kc
                refine wpAnyH_ready (rs := [1]) (by kernel_rfl) (by simp) ?_
                refine AllReadyH.cons rfl (fun Kc hK => ?_) (AllReadyH.nil)
                go_simp
                refine hK.out _ _ ?_ (fun hHeld => ?_)
                · exact hHeld
                clear hK Kc
                refine wpAnyH_ready (rs := [18]) (by kernel_rfl) (by simp) ?_
                refine AllReadyH.cons rfl (fun Kc hK => ?_) (AllReadyH.nil)
                refine step_append_lies _ rfl _ _ 66 rfl qb.heap.size 105 iE (.agg #[.int .i64 0, .int .i64 0, .int .i64 0]) 3 24 Try.underlying66 IE.out.1 IE.out.2.1 IE.out.2.2.1 IE.out.2.2.2 rfl (by decide) (.slice ya yn yc) yn (ints (flat L)) rfl (HWo.out.alloc _) ⟨w9.heap.size, 0, none⟩ 1 1 [.int .i64 p.o, .int .i64 r.1, .int .i64 r.2] rfl rfl (fun j u hj => cell_three_new w9.drew _ _ _ 105 j u hj) (ints_one3 _ _ _) (by decide) (by unfold maxLen; omega) (by omega) (by have := HG9.out.hx; simp; omega) _ rfl ?_
                intro g4 cap4 w4 hown4 hgrow4 hat4 hlt4
                obtain ⟨u1, u2, u3, u4, u5, u7, u6⟩ := HG9.out.app (wb := w9.drew) (by rw [HYN.out]) hgrow4 hown4 hat4
                have m1 : w4.cell? ⟨b7, 0, none⟩ = some (.int .i64 p.o) := (World.cell?_of_block (w := w9) (a := ⟨b7, 0, none⟩) (u4 _ k9z hO.out)).trans k9
                have m2 : w4.cell? ⟨b7, 3, none⟩ = some (.slice (some ⟨g, 0, none⟩) nk c') := (World.cell?_of_block (w := w9) (a := ⟨b7, 3, none⟩) (u4 _ k9z hO.out)).trans k93
                have m3 : w4.cell? ⟨g, j * 2, none⟩ = some (.int .i64 r.1) := (World.cell?_of_block (w := w9) (a := ⟨g, j * 2, none⟩) (u4 _ hg9 hOg.out)).trans s09
                have m4 : w4.cell? ⟨g, j * 2 + 1, none⟩ = some (.int .i64 r.2) := (World.cell?_of_block (w := w9) (a := ⟨g, j * 2 + 1, none⟩) (u4 _ hg9 hOg.out)).trans s19
                go_simp
                refine hK.out _ _ ?_ (fun hHeld => ?_)
                · exact ⟨m1, m2, m3, m4⟩
                clear hK Kc
                refine step_read 19 61 rfl rfl (by kernel_rfl) (by kernel_rfl) (by kernel_rfl) (fun _ _ _ h => h) (by rfl) (v := ?_) (fun w hSw => ?_) (by assumption) ?_; rotate_left; (focus ((try dsimp only at hSw); go_simp; first | done | exact rfl)); simp only [List.set]
                refine wpAnyH_ready (rs := [20]) (by kernel_rfl) (by simp) ?_
                refine AllReadyH.cons rfl (fun Kc hK => ?_) (AllReadyH.nil)
                go_simp
                refine hK.out _ _ ?_ (fun hHeld => ?_)
                · exact ⟨by rw [World.cell?_setCell_other _ _ _ _ (by simp <;> omega)]; exact m1, by rw [World.cell?_setCell_other _ _ _ _ (by simp <;> omega)]; exact m2, by rw [World.cell?_setCell_other _ _ _ _ (by simp <;> omega)]; exact m3, by rw [World.cell?_setCell_other _ _ _ _ (by simp <;> omega)]; exact m4⟩
                clear hK Kc
                refine wpAnyH_done (by kernel_rfl) ?_ _
                have kk : Hid ((w4.setCell ⟨qb.heap.size, 1, none⟩ (.slice (some ⟨g4, 0, none⟩) (yn + 1) cap4)).cell? ⟨b7, 0, none⟩ = some (.int .i64 p.o) ∧ (w4.setCell ⟨qb.heap.size, 1, none⟩ (.slice (some ⟨g4, 0, none⟩) (yn + 1) cap4)).cell? ⟨b7, 3, none⟩ = some (.slice (some ⟨g, 0, none⟩) nk c') ∧ b7 < (w4.setCell ⟨qb.heap.size, 1, none⟩ (.slice (some ⟨g4, 0, none⟩) (yn + 1) cap4)).heap.size) := Lib.hid ⟨hHeld.1, hHeld.2.1, by simp [World.setCell]; exact Nat.lt_of_lt_of_le k9z u5⟩
                have hO4 : Hid ((Value.slice (some ⟨g4, 0, none⟩) (yn + 1) cap4).ownBlock ≠ some b7) := Lib.hid fun q => by
                  have e : g4 = b7 := by simpa [Value.ownBlock] using q
                  rcases hat4 with h | h
                  · exact hO.out (by rw [h, e])
                  · simp at h; omega
                have hR4 := Lib.hid (hR9.out.next (Below.trans (show Below (w.heap.size + 2) w9 w9.drew from (Below.refl _ _).drew) (u7.mono HMX.out)))
                have HG4 : Hid (GX qb (w4.setCell ⟨qb.heap.size, 1, none⟩ (.slice (some ⟨g4, 0, none⟩) (yn + 1) cap4)) (.slice (some ⟨g4, 0, none⟩) (yn + 1) cap4) (gpre D (D.take k) ++ gel D p.o (p.K.take (j + 1)))) := Lib.hid (by rw [← HLE.out]; exact u6)
                clear u1 u2 u3 u4 u5 u6 u7 hown4 hgrow4 hat4 hlt4 m1 m2 m3 m4 hHeld
                go_wp2_with fail
                go_roundw
                case rel => exact ⟨j + 1, _, by omega, by go_num, hR4, HG4, kk, hO4⟩
                case measure => simp [intOf]; omega
        · have hge : ¬ ((j : Int) < (nk : Int)) := by omega
          have HE : Hid (gpre D (D.take k) ++ gel D p.o (p.K.take j) = gpre D (D.take (k + 1))) := Lib.hid (by
            have e : p.K.take j = p.K := List.take_of_length_le (by have := HNK.out; omega)
            rw [e]; exact HLN.out)
          have hG2 := Lib.hid (HE.out ▸ hG.out)
          clear hG HE
          go_wp2_with fail
          go_roundw
          case rel => exact ⟨k + 1, _, by omega, by go_num, hR, hG2⟩
          case measure => simp [intOf]; omega
    · have hge : ¬ ((k : Int) < (n : Int)) := by omega
      have HGO := Lib.hid (HGE.out k (by have := HN.out; omega))
      have hG2 : Hid (GX qb wr rv (gout D)) := Lib.hid (by have h := hG.out; rw [HGO.out] at h; exact h)
      have hll := HG1.out k
      rw [HGO.out] at hll
      obtain ⟨ya, yc, erv⟩ := hG2.out.own.slice
      subst erv
      obtain ⟨yn, hyn⟩ : ∃ q, q = (gout D).length := ⟨_, rfl⟩
      rw [← hyn] at hG2 hll HOO
      have HYN := Lib.hid hyn
      have y0 := hG2.out.x0
      have y1 := hG2.out.x1
      have yx := hG2.out.hx
      have HRW := Lib.hid (row_of_own hG2.out.own.row (by omega))
      clear hyn hG
      have c0_ := hR.out.c0
      have r0_ := hR.out.r0
      have r1_ := hR.out.r1
      have f0_ := hR.out.f0
      have f1_ := hR.out.f1
      have size_ := hR.out.size
      have hw0_ : w.heap.size < wr.heap.size := by omega
      have hw1_ : w.heap.size + 1 < wr.heap.size := by omega

      have hmx := HMX.out
      obtain ⟨gb, hgb⟩ : ∃ b, b = gfO D := ⟨_, rfl⟩
      have HGB := Lib.hid hgb.symm
      clear hgb
      go_wp2_with fail
      go_at_call 81
      refine (sgok_any 10 _ _ yn _ (gout D) _ HYN.out.symm (by have h := HRW.out; rw [← HYN.out] at h; exact h) (Nat.le_refl _)).mono ?_
      rw [HGK.out, HGB.out]
      rintro e w9 ⟨rfl, hb9⟩
      have I9 := Lib.hid (hR.out.next (hb9.mono hR.out.size))
      have v0 : w9.cell? ⟨qb.heap.size, 0, none⟩ = some (.int .i64 10) := ((bcell hb9).1 _ _ yx).trans y0
      have v1 : w9.cell? ⟨qb.heap.size, 1, none⟩ = some (.slice ya yn yc) := ((bcell hb9).1 _ _ yx).trans y1
      have HR9 := Lib.hid (HRW.out.below hb9 (Nat.le_refl _))
      have hz9 := hb9.size
      clear hb9 c0_ r0_ r1_ f0_ f1_ size_ hw0_ hw1_ y0 y1
      have c0_ := I9.out.c0
      have r0_ := I9.out.r0
      have r1_ := I9.out.r1
      have f0_ := I9.out.f0
      have f1_ := I9.out.f1
      have size_ := I9.out.size
      have hw0_ : w.heap.size < w9.heap.size := by omega
      have hw1_ : w.heap.size + 1 < w9.heap.size := by omega

      cases gb
      · have HO := HGB
        go_wp2_with fail
        refine bodyPost_ret (v := .tuple #[.agg #[.int .i64 0, .slice none 0 0], .bool false]) (by simp [results, Try.results42, go_sem, *]) rfl (gP (.slice none 0 0) (by rw [HO.out, (gf_no HO.out).1]) ?_ ?_)
        · rw [(gf_no HO.out).2]; exact ⟨rfl, .inl ⟨rfl, none, 0, rfl⟩⟩
        · exact ((I9.out.below.setCell (by simp <;> omega) _).setCell (by simp <;> omega) _)
      · have HO := HGB
        go_wp2_with fail
        refine bodyPost_ret (v := .tuple #[.agg #[.int .i64 10, .slice ya yn yc], .bool true]) (by simp [results, Try.results42, go_sem, *]) rfl (gP (.slice ya yn yc) (by rw [HO.out, (gf_yes HO.out).1]) ?_ ?_)
        · rw [(gf_yes HO.out).2, ← HYN.out]
          have h := HR9.out
          rw [← HYN.out] at h
          exact (((h.setCell (.inl (by simp <;> omega)) _).setCell (.inl (by simp <;> omega)) _).wide (by omega) (by simp [World.setCell]; omega))
        · exact ((I9.out.below.setCell (by simp <;> omega) _).setCell (by simp <;> omega) _)

end Go.Proofs.Ytfpafjdakipccaa
