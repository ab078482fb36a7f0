/- FnHeavy: the walk. -/
import Derived.Test.YtophppnllkadoaaMv
import Derived.Test.YtophppnllkadoaaS14
import Derived.Test.YtophppnllkadoaaS6
import Derived.Test.YtophppnllkadoaaS3
import Derived.Deep.DeepCutAuto
namespace Go.Proofs.Ytophppnllkadoaa
open Go.RowKit

/-- Whether a list holds a number. -/
def hasB (Z : List Int) (x : Int) : Bool := Z.any fun z => z == x
theorem hasB_yes {Z : List Int} {x : Int} {i : Nat} (h : Z[i]? = some x) : hasB Z x = true := by
  unfold hasB
  exact List.any_eq_true.2 ⟨x, List.mem_of_getElem? h, by simp⟩
theorem hasB_no {Z : List Int} {x : Int} (h : ∀ (i : Nat) z, Z[i]? = some z → z ≠ x) : hasB Z x = false := by
  unfold hasB
  rw [List.any_eq_false]
  intro z hz
  obtain ⟨i, hi⟩ := List.mem_iff_getElem?.1 hz
  simpa using h i z hi
set_option maxRecDepth 100000 in
set_option maxHeartbeats 2400000 in
theorem within_any (Z : List Int) (lo hi n : Nat) (v : Value) (x : Int) (w : World) (hr : Row 1 w lo hi v n Z) :
    Calls Try.prog 27 #[v, .int .i64 x] w fun e w' => e = .returned (.bool (hasB Z x)) ∧ w = w' := by
  have hZl : Z.length = n := by have := hr.1; omega
  obtain ⟨ad, cp, rfl, hn, hc⟩ := hr.opened
  have HC := Lib.hid hc
  have HZ := Lib.hid hZl
  clear hc hr hZl
  go_enter Try.func27, Try.ntmps27
  go_wp2
  go_loop [5] (fun i => ∃ k : Nat, k ≤ n ∧ i = .int .i64 (k : Int) ∧ Hid (∀ (i : Nat) z, i < k → Z[i]? = some z → z ≠ x)) (fun i => n - (intOf i).toNat)
  case atStart => exact ⟨0, Nat.zero_le _, rfl, fun i z hi => absurd hi (Nat.not_lt_zero _)⟩
  case round =>
    obtain ⟨k, hk, rfl, hR⟩ := hrel
    by_cases hlt : k < n
    · obtain ⟨g, rfl, hg, hcell⟩ := HC.out (by omega)
      obtain ⟨z, hz⟩ : ∃ z, Z[k]? = some z := ⟨Z[k]'(by rw [HZ.out]; exact hlt), List.getElem?_eq_getElem _⟩
      have z0 : w.cell? ⟨g, k, none⟩ = some (.int .i64 z) := hcell _ _ hz
      have q0 : (0 : Int) ≤ (k : Int) := by omega
      have q1 : (k : Int) < (n : Int) := by omega
      have Hz := Lib.hid hz
      clear hcell hz
      by_cases h : z = x
      · have e1 : (z == x) = true := by simp [h]
        have e2 : Hid (hasB Z x = true) := by show _ = _; rw [← h]; exact hasB_yes Hz.out
        clear h
        go_wp2
        go_ret
        exact ⟨by rw [e2.out]; rfl, rfl⟩
      · have e1 : (z == x) = false := by simp [h]
        have HE : Hid (∀ (i : Nat) z, i < k + 1 → Z[i]? = some z → z ≠ x) := fun i y hi hy => by
          by_cases e : i = k
          · subst e; rw [Hz.out] at hy; cases hy; exact h
          · exact hR.out i y (by omega) hy
        clear h hR
        go_wp2
        go_round
        case rel => exact ⟨k + 1, by omega, by go_num, HE⟩
        case measure => simp [intOf]; omega
    · obtain rfl : n = k := by omega
      have hge : ¬ ((n : Int) < (n : Int)) := by omega
      have e2 : Hid (hasB Z x = false) := by
        show _ = _
        exact hasB_no fun i z hi => hR.out i z (by obtain ⟨h, _⟩ := List.getElem?_eq_some_iff.1 hi; rw [HZ.out] at h; exact h) hi
      clear hR
      go_wp2
      go_ret
      exact ⟨by rw [e2.out]; rfl, rfl⟩

theorem big_any (a : Option Addr) (n cp : Nat) (w : World) : Calls Try.prog 15 #[.slice a n cp] w fun e w' => e = .returned (.bool (decide ((n : Int) > 1048576))) ∧ w = w' := by
  go_enter Try.func15, Try.ntmps15
  go_wp2_with fail
  go_ret
  exact ⟨rfl, rfl⟩
theorem row2_cells {w : World} {lo hi m c : Nat} {a : Option Addr} {A : List Ad} (hr : Row 2 w lo hi (.slice a m c) m (flat2 A)) {k : Nat} {x y : Int} (hk : A[k]? = some (x, y)) : ∃ g, a = some ⟨g, 0, none⟩ ∧ lo ≤ g ∧ g < hi ∧ w.cell? ⟨g, k * 2, none⟩ = some (.int .i64 x) ∧ w.cell? ⟨g, k * 2 + 1, none⟩ = some (.int .i64 y) := by
  obtain ⟨r0, r1⟩ := flat2_at A k _ hk
  rcases hr with ⟨h0, ⟨e, _⟩ | ⟨g, cap, e, h1, h2, _, h4, _⟩⟩
  · have := lt_of_at r0; omega
  · simp only [Value.slice.injEq] at e
    exact ⟨g, e.1, h1, h2, h4 _ _ r0, h4 _ _ r1⟩
theorem row3_cells {w : World} {lo hi m c : Nat} {a : Option Addr} {L : List Hv} (hr : Row 3 w lo hi (.slice a m c) m (flat L)) {k : Nat} {x y z : Int} (hk : L[k]? = some (x, y, z)) : ∃ g, a = some ⟨g, 0, none⟩ ∧ lo ≤ g ∧ g < hi ∧ w.cell? ⟨g, k * 3, none⟩ = some (.int .i64 x) ∧ w.cell? ⟨g, k * 3 + 1, none⟩ = some (.int .i64 y) ∧ w.cell? ⟨g, k * 3 + 2, none⟩ = some (.int .i64 z) := by
  obtain ⟨r0, r1, r2⟩ := flat_at L k _ hk
  rcases hr with ⟨h0, ⟨e, _⟩ | ⟨g, cap, e, h1, h2, _, h4, _⟩⟩
  · have := lt_of_at r0; omega
  · simp only [Value.slice.injEq] at e
    exact ⟨g, e.1, h1, h2, h4 _ _ r0, h4 _ _ r1, h4 _ _ r2⟩
theorem Try.info3q : (Try.prog.info? 3).map (fun i => (i.zero, i.size, i.bytes)) = some (some (.int .i64 0), 1, 8) := by kernel_rfl
/-- The keys of a list. -/
def keysL (T : List Hv) : List Int := T.map fun r => r.1
theorem keysL_len (T : List Hv) : (keysL T).length = T.length := by simp [keysL]
theorem keysL_snoc {T : List Hv} {k : Nat} {r : Hv} (h : T[k]? = some r) : keysL (T.take (k + 1)) = keysL (T.take k) ++ [r.1] := by rw [take_snoc3 h]; simp [keysL]
theorem sumC_take {T : List Hv} (hT : TopP T) : ∀ k, k ≤ T.length → 0 ≤ sumC (T.take k) ∧ sumC (T.take k) ≤ (k : Int) * 1000000000000
  | 0, _ => by simp [sumC]
  | k + 1, hk => by
    obtain ⟨x, y, z, hr⟩ := at_of_lt (L := T) (i := k) (by omega)
    have h1 := sumC_take hT k (by omega)
    have h2 := (hvB_iff.1 (hT.at_ hr)).2.1
    rw [take_snoc3 hr, sumC_snoc]
    push_cast
    show 0 ≤ _ + y ∧ _ + y ≤ _
    simp only at h2
    omega
theorem tcV_eq {A : List Ad} (key : Int) (h : A.length ≤ 300) : tcV A key = tcW A key A.length := by unfold tcV; rw [Nat.min_eq_left h]

set_option maxRecDepth 100000 in
set_option maxHeartbeats 4000000 in
theorem fnheavy_any (a : Option Addr) (n cp : Nat) (w : World) (hb : n ≤ 1099511627776 → BytesAt w a n) (hold : ∀ p : Addr, a = some p → p.block < w.heap.size) : Calls Try.prog 4 #[.slice a n cp] w fun e w' => e = .returned (.bool true) ∧ Below w.heap.size w w' := by
  have HO := Lib.hid hold
  have HB := Lib.hid hb
  clear hb hold
  obtain ⟨iI, hi0, hz0, hz1, hz2⟩ := info_parts Try.info3q
  have I := Lib.hid (And.intro hi0 (And.intro hz0 (And.intro hz1 hz2)))
  clear hi0 hz0 hz1 hz2
  go_enter Try.func4, Try.ntmps4
  go_wp2_with fail
  go_at_call 15
  refine (big_any a n cp _).mono ?_
  rintro e w' ⟨rfl, rfl⟩
  by_cases hbig : (n : Int) > 1048576
  · rw [decide_eq_true hbig]
    go_wp2_with fail
    go_ret
    exact ⟨rfl, Below.refl _ _⟩
  rw [decide_eq_false hbig]
  go_wp2_with fail
  go_at_call 16
  refine (dplay_any a n cp _ (HB.out (by omega)) HO.out).mono ?_
  rintro e w1 ⟨rv, A, rfl, hAl, hr, hc, hb1⟩
  obtain ⟨ra, rc, rfl⟩ := hr.slice
  have hcap : capOk (.slice ra A.length rc) A.length := by
    by_cases h : 0 < A.length
    · exact hc h
    · exact ⟨ra, rc, rfl, by omega⟩
  obtain ⟨m, hm⟩ : ∃ m, m = A.length := ⟨_, rfl⟩
  rw [← hm] at hr hcap hAl ⊢
  have HM := Lib.hid hm
  have HCAP := Lib.hid hcap
  have HR1 := Lib.hid hr
  have HB1 := Lib.hid hb1
  have hs01 := hb1.size
  clear hr hc hb1 HB HO hbig hcap hm
  obtain ⟨T, hT⟩ : ∃ T, T = plyL A := ⟨_, rfl⟩
  have HT := Lib.hid hT
  obtain ⟨tl, hq⟩ : ∃ tl, tl = T.length := ⟨_, rfl⟩
  have HQ := Lib.hid hq
  have hq4 : tl ≤ 4 := by rw [hq, hT]; exact plyL_len A
  clear hT hq
  go_wp2_with fail
  go_at_call 22
  refine (splay_any _ _ m _ A _ HM.out.symm HR1.out (by omega)).mono ?_
  rintro e v1 ⟨rv1, rfl, hr1, hb1⟩
  have sz1 : w1.heap.size ≤ v1.heap.size := hb1.size
  have st1 : Below w1.heap.size w1 v1 := hb1
  have B1 : Hid (Below w.heap.size w v1) := HB1.out.trans (st1.mono (by omega))
  have R1_0 : Hid (Row 2 v1 (w.heap.size) (w1.heap.size) (.slice ra m rc) m (flat2 A)) := HR1.out.below st1 (by omega)
  clear HB1 st1 HR1 hb1
  rw [← HT.out, ← HQ.out] at hr1
  obtain ⟨a1, c1, rfl⟩ := hr1.slice
  have HRA := Lib.hid hr1
  clear hr1
  go_upto_region 5 with fail
  obtain ⟨q2, hq2⟩ : ∃ qW, qW = (v1.alloc (.cells #[.slice a1 tl c1] 38)) := ⟨_, rfl⟩
  have hb2 : Below v1.heap.size v1 q2 := by rw [hq2]; go_grown
  have sz2 : v1.heap.size + 1 ≤ q2.heap.size := by rw [hq2]; simp
  have c2_0 : q2.cell? ⟨v1.heap.size, 0, none⟩ = some (.slice a1 tl c1) := by rw [hq2, new_at (by simp)]; rfl
  have B2 : Hid (Below w.heap.size w q2) := Lib.hid (B1.out.trans (hb2.mono (by omega)))
  have R2_0 : Hid (Row 2 q2 (w.heap.size) (w1.heap.size) (.slice ra m rc) m (flat2 A)) := Lib.hid (R1_0.out.below hb2 (by omega))
  have R2_1 : Hid (Row 3 q2 (w1.heap.size) (v1.heap.size) (.slice a1 tl c1) tl (flat T)) := Lib.hid (HRA.out.below hb2 (by omega))
  rw [← hq2]
  have d2_0 : v1.heap.size < q2.heap.size := by omega
  have e2_0 : v1.heap.size ≠ q2.heap.size := by omega
  clear hq2 hb2 B1 R1_0 HRA
  go_wp2_with fail
  go_at_call 23
  refine (iplay_any _ _ m _ A _ HM.out.symm R2_0.out (by omega)).mono ?_
  rintro e v3 ⟨rv2, rfl, hr2, hb3⟩
  have sz3 : q2.heap.size ≤ v3.heap.size := hb3.size
  have st3 : Below q2.heap.size q2 v3 := hb3
  have c3_0 : v3.cell? ⟨v1.heap.size, 0, none⟩ = some (.slice a1 tl c1) := by rw [(bcell st3).1 _ _ (by omega)]; exact c2_0
  have B3 : Hid (Below w.heap.size w v3) := B2.out.trans (st3.mono (by omega))
  have R3_0 : Hid (Row 2 v3 (w.heap.size) (w1.heap.size) (.slice ra m rc) m (flat2 A)) := R2_0.out.below st3 (by omega)
  have R3_1 : Hid (Row 3 v3 (w1.heap.size) (v1.heap.size) (.slice a1 tl c1) tl (flat T)) := R2_1.out.below st3 (by omega)
  have d3_0 : v1.heap.size < v3.heap.size := by omega
  have e3_0 : v1.heap.size ≠ v3.heap.size := by omega
  clear d2_0 e2_0 c2_0 B2 st3 R2_0 R2_1 hb3
  rw [← HT.out, ← HQ.out] at hr2
  obtain ⟨a2, c2, rfl⟩ := hr2.slice
  have HRB := Lib.hid hr2
  clear hr2
  go_upto_region 6 with fail
  obtain ⟨q4, hq4⟩ : ∃ qW, qW = (v3.alloc (.cells #[.slice a2 tl c2] 38)) := ⟨_, rfl⟩
  have hb4 : Below v3.heap.size v3 q4 := by rw [hq4]; go_grown
  have sz4 : v3.heap.size + 1 ≤ q4.heap.size := by rw [hq4]; simp
  have c4_0 : q4.cell? ⟨v1.heap.size, 0, none⟩ = some (.slice a1 tl c1) := by rw [(bcell hb4).1 _ _ (by omega)]; exact c3_0
  have c4_1 : q4.cell? ⟨v3.heap.size, 0, none⟩ = some (.slice a2 tl c2) := by rw [hq4, new_at (by simp)]; rfl
  have B4 : Hid (Below w.heap.size w q4) := Lib.hid (B3.out.trans (hb4.mono (by omega)))
  have R4_0 : Hid (Row 2 q4 (w.heap.size) (w1.heap.size) (.slice ra m rc) m (flat2 A)) := Lib.hid (R3_0.out.below hb4 (by omega))
  have R4_1 : Hid (Row 3 q4 (w1.heap.size) (v1.heap.size) (.slice a1 tl c1) tl (flat T)) := Lib.hid (R3_1.out.below hb4 (by omega))
  have R4_2 : Hid (Row 3 q4 (q2.heap.size) (v3.heap.size) (.slice a2 tl c2) tl (flat T)) := Lib.hid (HRB.out.below hb4 (by omega))
  rw [← hq4]
  have d4_0 : v1.heap.size < q4.heap.size := by omega
  have e4_0 : v1.heap.size ≠ q4.heap.size := by omega
  have d4_1 : v3.heap.size < q4.heap.size := by omega
  have e4_1 : v3.heap.size ≠ q4.heap.size := by omega
  clear hq4 hb4 d3_0 e3_0 c3_0 B3 R3_0 R3_1 HRB
  obtain ⟨X, hX⟩ : ∃ X, X = v1.heap.size := ⟨_, rfl⟩
  obtain ⟨Y, hY⟩ : ∃ Y, Y = v3.heap.size := ⟨_, rfl⟩
  have hXY : X < Y := by omega
  have hYW : Y < q4.heap.size := by omega
  have hvX : v1.heap.size = X := by omega
  rw [← hX] at c4_0 ⊢
  rw [← hY] at c4_1 ⊢
  have HCX := Lib.hid c4_0
  have HCY := Lib.hid c4_1
  clear hX hY c4_0 c4_1 hvX
  have k4 := HCX.out
  have k6 := HCY.out
  cases hfine : plyB A with
  | false =>
    go_wp2_with fail
    go_ret
    exact ⟨rfl, B4.out⟩
  | true =>
  obtain ⟨hA3, hPP⟩ := plyB_iff.1 hfine
  have hTe : T = plyT A m := by rw [HT.out, (ply_yes hA3 hPP).2, HM.out]
  rw [← HM.out] at hA3 hPP
  have hinv := ply_inv (A := A) m (by rw [HM.out]; exact Nat.le_refl _) (by omega) hPP
  have htop := plyT_top (A := A) m (by rw [HM.out]; exact Nat.le_refl _) hPP
  rw [← hTe] at hinv htop
  have HI := Lib.hid hinv
  have HTP := Lib.hid htop
  have HPP := Lib.hid hPP
  have hab := allS_bnd (A := A) m (by rw [HM.out]; exact Nat.le_refl _) hPP
  clear hinv htop hPP hfine hTe
  go_wp2_with fail
  go_loopw [8, 9] (fun s i wr => ∃ k : Nat, k ≤ m ∧ i = .int .i64 (k : Int) ∧ s = .int .i64 (allS A k) ∧ q4 = wr) (fun _ i _ => m - (intOf i).toNat)
  case atStart => exact ⟨0, Nat.zero_le _, rfl, rfl, by first | rfl | trivial⟩
  case round =>
    obtain ⟨k, hk, rfl, rfl, rfl⟩ := hrel
    by_cases hlt : k < m
    case pos =>
      obtain ⟨x, y, hrk⟩ := at2_of_lt (L := A) (i := k) (by rw [← HM.out]; exact hlt)
      obtain ⟨g, rfl, _, hg, z0, z1⟩ := row2_cells R4_0.out hrk
      have hbk := allS_bnd (A := A) k (by rw [← HM.out]; exact hk) (HPP.out.mono hk)
      have hny := ply_n HPP.out hlt hrk
      have e1 := Lib.hid (allS_at hrk)
      have q0 : (0 : Int) ≤ (k : Int) := by omega
      have q1 : (k : Int) < (m : Int) := by omega
      have wa : IntKind.i64.wrap (allS A k + y) = allS A k + y := IntWalk.i64_in _ (by omega)
      generalize hAA : allS A k = AA at *
      clear hAA hrk hbk hny k4 k6
      go_wp2_with fail
      go_roundw
      case rel => exact ⟨k + 1, by omega, by go_num, by rw [e1.out], by first | rfl | trivial⟩
      case measure => simp [intOf]; omega
    case neg =>
    obtain rfl : k = m := by omega
    have hge : ¬ ((k : Int) < (k : Int)) := by omega
    obtain ⟨S0, hS0⟩ : ∃ S0, S0 = allS A k := ⟨_, rfl⟩
    have HS0 := Lib.hid hS0
    rw [← hS0] at hab ⊢
    clear hS0
    have HK0 : Hid (OwnR 3 1 q4 (q4.alloc (.cells #[] 3)) (.slice (some ⟨q4.heap.size, 0, none⟩) 0 0) 0 (keysL (T.take 0))) := OwnR.lit0 3 1 q4
    go_wp2_with fail
    go_loopw [10, 11, 12] (fun s l i wr => ∃ (u : Nat) (ka : Option Addr) (kc : Nat), u ≤ tl ∧ i = .int .i64 (u : Int) ∧ s = .int .i64 (sumC (T.take u)) ∧ l = .slice ka u kc ∧ Hid (OwnR 3 1 q4 wr (.slice ka u kc) u (keysL (T.take u)))) (fun _ _ i _ => tl - (intOf i).toNat)
    case atStart => exact ⟨0, _, _, Nat.zero_le _, rfl, rfl, rfl, HK0⟩
    case round =>
      clear HK0 k4 k6
      obtain ⟨wo, rfl⟩ : ∃ x, x = wr := ⟨_, rfl⟩
      obtain ⟨u, ka, kc, hu, rfl, rfl, rfl, hK⟩ := hrel
      have sW := hK.out.below.size
      have k4 : wo.cell? ⟨X, 0, none⟩ = some (.slice a1 tl c1) := by rw [hK.out.below.cell (p := ⟨X, 0, none⟩) (by show X < _; omega)]; exact HCX.out
      have k6 : wo.cell? ⟨Y, 0, none⟩ = some (.slice a2 tl c2) := by rw [hK.out.below.cell (p := ⟨Y, 0, none⟩) (by show Y < _; omega)]; exact HCY.out
      have HRo : Hid (Row 2 wo w.heap.size w1.heap.size (.slice ra k rc) k (flat2 A)) := R4_0.out.below hK.out.below (by omega)
      have HBo : Hid (Below w.heap.size w wo) := B4.out.trans (hK.out.below.mono (by omega))
      by_cases hlu : u < tl
      case pos =>
        obtain ⟨x, y, z, hrk⟩ := at_of_lt (L := T) (i := u) (by rw [← HQ.out]; exact hlu)
        obtain ⟨g1, rfl, _, hg1, p0, p1, p2⟩ := row3_cells R4_1.out hrk
        obtain ⟨g2, rfl, _, hg2, y0, y1, y2⟩ := row3_cells R4_2.out hrk
        have hmem := List.mem_of_getElem? hrk
        have htr : tcV A x = tcW A x k := by rw [tcV_eq x (by rw [← HM.out]; exact hA3), HM.out]
        have hup := HI.out.up _ hmem
        have hlo := HI.out.lo _ hmem
        simp only at hup hlo
        rw [← htr] at hup hlo
        have hhv := hvB_iff.1 (HTP.out.at_ hrk)
        have hsb := sumC_take HTP.out u (by rw [← HQ.out]; exact hu)
        have hyb : 1 ≤ y ∧ y ≤ 1000000000000 := hhv.2.1
        have hzb : 0 ≤ z ∧ z ≤ y - 1 := hhv.2.2
        have ht0 : 0 ≤ tcV A x := by rw [htr]; exact (tcW_bnd x k (by rw [HM.out]; exact Nat.le_refl _) (by omega) HPP.out).1
        have hsn : Hid (sumC (T.take (u + 1)) = sumC (T.take u) + y) := by show _ = _; rw [take_snoc3 hrk, sumC_snoc]
        have hkn : Hid (keysL (T.take (u + 1)) = keysL (T.take u) ++ [x]) := keysL_snoc hrk
        have P0 : Hid (wo.cell? ⟨g1, u * 3, none⟩ = some (.int .i64 x) ∧ wo.cell? ⟨g1, u * 3 + 1, none⟩ = some (.int .i64 y) ∧ wo.cell? ⟨g1, u * 3 + 2, none⟩ = some (.int .i64 z)) := by
          refine ⟨?_, ?_, ?_⟩
          · rw [hK.out.below.cell (p := ⟨g1, _, none⟩) (by show g1 < _; omega)]; exact p0
          · rw [hK.out.below.cell (p := ⟨g1, _, none⟩) (by show g1 < _; omega)]; exact p1
          · rw [hK.out.below.cell (p := ⟨g1, _, none⟩) (by show g1 < _; omega)]; exact p2
        have y0' : wo.cell? ⟨g2, u * 3, none⟩ = some (.int .i64 x) := by rw [hK.out.below.cell (p := ⟨g2, _, none⟩) (by show g2 < _; omega)]; exact y0
        have y1' : wo.cell? ⟨g2, u * 3 + 1, none⟩ = some (.int .i64 y) := by rw [hK.out.below.cell (p := ⟨g2, _, none⟩) (by show g2 < _; omega)]; exact y1
        have y2' : wo.cell? ⟨g2, u * 3 + 2, none⟩ = some (.int .i64 z) := by rw [hK.out.below.cell (p := ⟨g2, _, none⟩) (by show g2 < _; omega)]; exact y2
        obtain ⟨tr, htrr⟩ : ∃ tr, tr = tcV A x := ⟨_, rfl⟩
        have HTR := Lib.hid htrr
        rw [← htrr] at hup hlo ht0
        obtain ⟨sc, hsc⟩ : ∃ sc, sc = sumC (T.take u) := ⟨_, rfl⟩
        have HSC := Lib.hid hsc
        rw [← hsc] at hsb ⊢
        have q0 : (0 : Int) ≤ (u : Int) := by omega
        have q1 : (u : Int) < (tl : Int) := by omega
        have qg : ¬ ((tl : Int) ≤ (u : Int)) := by omega
        have wt : IntKind.i64.wrap (y - tr) = y - tr := IntWalk.i64_in _ (by omega)
        have ws : IntKind.i64.wrap (sc + y) = sc + y := IntWalk.i64_in _ (by omega)
        have d1 : ¬ y < tr := by omega
        have d2 : ¬ z < y - tr := by omega
        have gs1 : g1 < wo.heap.size := by omega
        have gs2 : g2 < wo.heap.size := by omega
        have gX : X < wo.heap.size := by omega
        have gY : Y < wo.heap.size := by omega
        clear p0 p1 p2 y0 y1 y2 hrk hmem htr hhv hsc htrr hlo hup
  
        go_upto_region 21 with fail
        obtain ⟨q21, hq21⟩ : ∃ qW, qW = (wo.alloc (.cells #[.int .i64 x, .int .i64 y, .int .i64 z] 43)) := ⟨_, rfl⟩
        have hb21 : Below wo.heap.size wo q21 := by rw [hq21]; go_grown
        have sz21 : wo.heap.size + 1 ≤ q21.heap.size := by rw [hq21]; simp
        have c21_0 : q21.cell? ⟨X, 0, none⟩ = some (.slice (some ⟨g1, 0, none⟩) tl c1) := by rw [(bcell hb21).1 _ _ (by omega)]; exact k4
        have c21_1 : q21.cell? ⟨Y, 0, none⟩ = some (.slice (some ⟨g2, 0, none⟩) tl c2) := by rw [(bcell hb21).1 _ _ (by omega)]; exact k6
        have c21_2 : q21.cell? ⟨g1, u * 3, none⟩ = some (.int .i64 x) := by rw [(bcell hb21).1 _ _ (by omega)]; exact P0.out.1
        have c21_3 : q21.cell? ⟨g1, u * 3 + 1, none⟩ = some (.int .i64 y) := by rw [(bcell hb21).1 _ _ (by omega)]; exact P0.out.2.1
        have c21_4 : q21.cell? ⟨g1, u * 3 + 2, none⟩ = some (.int .i64 z) := by rw [(bcell hb21).1 _ _ (by omega)]; exact P0.out.2.2
        have c21_5 : q21.cell? ⟨wo.heap.size, 0, none⟩ = some (.int .i64 x) := by rw [hq21, new_at (by simp)]; rfl
        have c21_6 : q21.cell? ⟨wo.heap.size, 1, none⟩ = some (.int .i64 y) := by rw [hq21, new_at (by simp)]; rfl
        have c21_7 : q21.cell? ⟨wo.heap.size, 2, none⟩ = some (.int .i64 z) := by rw [hq21, new_at (by simp)]; rfl
        have B21 : Hid (Below wo.heap.size wo q21) := Lib.hid hb21
        have R21_0 : Hid (Row 2 q21 (w.heap.size) (w1.heap.size) (.slice ra k rc) k (flat2 A)) := Lib.hid (HRo.out.below hb21 (by omega))
        rw [← hq21]
        have d21_3 : wo.heap.size < q21.heap.size := by omega
        have e21_3 : wo.heap.size ≠ q21.heap.size := by omega
        clear hq21 hb21 k4 k6 HRo
        go_wp2_with fail
        go_at_call 24
        refine (itc_any _ _ k _ A x _ HM.out.symm R21_0.out (by omega) HCAP.out).mono ?_
        rw [← HTR.out]
        rintro e v22 ⟨rfl, hb22⟩
        have sz22 : q21.heap.size ≤ v22.heap.size := hb22.size
        have st22 : Below q21.heap.size q21 v22 := hb22
        have c22_0 : v22.cell? ⟨X, 0, none⟩ = some (.slice (some ⟨g1, 0, none⟩) tl c1) := by rw [(bcell st22).1 _ _ (by omega)]; exact c21_0
        have c22_1 : v22.cell? ⟨Y, 0, none⟩ = some (.slice (some ⟨g2, 0, none⟩) tl c2) := by rw [(bcell st22).1 _ _ (by omega)]; exact c21_1
        have c22_2 : v22.cell? ⟨g1, u * 3, none⟩ = some (.int .i64 x) := by rw [(bcell st22).1 _ _ (by omega)]; exact c21_2
        have c22_3 : v22.cell? ⟨g1, u * 3 + 1, none⟩ = some (.int .i64 y) := by rw [(bcell st22).1 _ _ (by omega)]; exact c21_3
        have c22_4 : v22.cell? ⟨g1, u * 3 + 2, none⟩ = some (.int .i64 z) := by rw [(bcell st22).1 _ _ (by omega)]; exact c21_4
        have c22_5 : v22.cell? ⟨wo.heap.size, 0, none⟩ = some (.int .i64 x) := by rw [(bcell st22).1 _ _ (by omega)]; exact c21_5
        have c22_6 : v22.cell? ⟨wo.heap.size, 1, none⟩ = some (.int .i64 y) := by rw [(bcell st22).1 _ _ (by omega)]; exact c21_6
        have c22_7 : v22.cell? ⟨wo.heap.size, 2, none⟩ = some (.int .i64 z) := by rw [(bcell st22).1 _ _ (by omega)]; exact c21_7
        have B22 : Hid (Below wo.heap.size wo v22) := B21.out.trans (st22.mono (by omega))
        have R22_0 : Hid (Row 2 v22 (w.heap.size) (w1.heap.size) (.slice ra k rc) k (flat2 A)) := R21_0.out.below st22 (by omega)
        have d22_3 : wo.heap.size < v22.heap.size := by omega
        have e22_3 : wo.heap.size ≠ v22.heap.size := by omega
        clear d21_3 e21_3 c21_0 c21_1 c21_2 c21_3 c21_4 c21_5 c21_6 c21_7 B21 st22 R21_0 hb22
        have HOK : Hid (OwnR 3 1 q4 v22 (.slice ka u kc) u (keysL (T.take u))) := hK.out.grow B22.out
        clear hK
        have HON : ∀ nq, Hid (OwnR 3 1 q4 (v22.drewN nq) (.slice ka u kc) u (keysL (T.take u))) := fun nq => HOK.out.grow (below_drewN _ _)
        go_wp2_with fail
        go_quiet (fail)
        go_wp2_with (at_builtin; refine wpList_append_lies _ rfl _ _ 41 rfl q4.heap.size 3 iI (.int .i64 0) 1 8 Try.underlying41 I.out.1 I.out.2.1 I.out.2.2.1 I.out.2.2.2 rfl (by decide) _ u (ints (keysL (T.take u))) rfl ((HON _).out.row.alloc _) ⟨v22.heap.size, 0, none⟩ 1 1 (ints [x]) rfl rfl ?d0 (ints_one _) (by decide) ?d1 ?d2 ?d3 _ rfl ?_)
        case d0 => first | exact fun a_ u ha => cells_new _ [x] 3 rfl a_ u ha | exact fun a_ u ha => by simpa [ints] using ha
        case d1 => unfold maxLen; omega
        case d2 => omega
        case d3 => first | omega | (simp; omega)
        intro g4 cap4 w4 hown4 hgrow4 hat4 hlt4
        have HN : Hid (OwnR 3 1 q4 w4 (.slice (some ⟨g4, 0, none⟩) (u + 1) cap4) (u + 1) (keysL (T.take (u + 1)))) := by
          show OwnR _ _ _ _ _ _ _
          rw [hkn.out]
          exact ((HON _).out.grow ((Below.refl _ _).alloc (Nat.le_refl _) _)).app hgrow4 hown4
        clear hown4 hgrow4 hat4 hlt4 HOK HON
        go_wp2_with fail
        go_roundw
        case rel => exact ⟨u + 1, _, _, by omega, by go_num, by rw [hsn.out, ← HSC.out], rfl, HN⟩
        case measure => simp [intOf]; omega
      case neg =>
      obtain rfl : u = tl := by omega
      have hge2 : ¬ ((u : Int) < (u : Int)) := by omega
      have hTt : T.take u = T := by rw [HQ.out, List.take_length]
      rw [hTt] at hK ⊢
      have hss : sumC T = S0 := by rw [HI.out.sum, HS0.out]
      rw [hss]
      have HRk : Hid (Row 1 wo q4.heap.size wo.heap.size (.slice ka u kc) u (keysL T)) := hK.out.toRow (by omega)
      have HRt : Hid (Row 3 wo q2.heap.size v3.heap.size (.slice a2 u c2) u (flat T)) := R4_2.out.below hK.out.below (by omega)
      have htb : topB T = true := topB_iff.2 HTP.out
      clear hTt hss hK
      go_wp2_with fail
      go_at_call 25
      refine (stop_any _ _ u _ T _ HQ.out.symm HRt.out (by omega)).mono ?_
      rw [htb]
      rintro e w5 ⟨rfl, hb5⟩
      have s5 := hb5.size
      have HR5 : Hid (Row 2 w5 w.heap.size w1.heap.size (.slice ra k rc) k (flat2 A)) := HRo.out.below hb5 (by omega)
      have HB5 : Hid (Below w.heap.size w w5) := HBo.out.trans (hb5.mono (by omega))
      have HK5 : Hid (Row 1 w5 q4.heap.size wo.heap.size (.slice ka u kc) u (keysL T)) := HRk.out.below hb5 (Nat.le_refl _)
      have hlight := Lib.hid (fun key => HI.out.light (key := key) (by rw [← HQ.out]; exact hq4) (by rw [← HS0.out]; exact hab.1))
      clear hb5 HRo HBo HRk HRt htb k4 k6
      go_wp2_with fail
      go_loopw [15] (fun i wr => ∃ t : Nat, t ≤ k ∧ i = .int .i64 (t : Int) ∧ Hid (Below w5.heap.size w5 wr)) (fun i _ => k - (intOf i).toNat)
      case atStart => exact ⟨0, Nat.zero_le _, rfl, Below.refl _ _⟩
      case round =>
        obtain ⟨wp, rfl⟩ : ∃ x, x = wr := ⟨_, rfl⟩
        obtain ⟨t, ht, rfl, hB9⟩ := hrel
        have s9 := hB9.out.size
        by_cases hlt2 : t < k
        case neg =>
          obtain rfl : t = k := by omega
          go_wp2_with fail
          go_ret
          exact ⟨rfl, HB5.out.trans (hB9.out.mono (by omega))⟩
        case pos =>
        have HR9 : Hid (Row 2 wp w.heap.size w1.heap.size (.slice ra k rc) k (flat2 A)) := HR5.out.below hB9.out (by omega)
        obtain ⟨x, y, hrk⟩ := at2_of_lt (L := A) (i := t) (by rw [← HM.out]; exact hlt2)
        obtain ⟨g, rfl, _, hg, z0, z1⟩ := row2_cells HR9.out hrk
        have htr : tcV A x = tcW A x k := by rw [tcV_eq x (by rw [← HM.out]; exact hA3), HM.out]
        have htb := tcW_bnd x k (by rw [HM.out]; exact Nat.le_refl _) (by omega) HPP.out
        rw [← htr] at htb
        have hli := hlight.out x
        rw [← htr, ← HS0.out] at hli
        have q0 : (0 : Int) ≤ (t : Int) := by omega
        have q1 : (t : Int) < (k : Int) := by omega
        obtain ⟨tr, htrr⟩ : ∃ tr, tr = tcV A x := ⟨_, rfl⟩
        have HTR := Lib.hid htrr
        rw [← htrr] at htb hli
        have wt : IntKind.i64.wrap (tr * 4) = tr * 4 := IntWalk.i64_in _ (by omega)
        clear htr htrr hrk
        go_wp2_with fail
        go_at_call 26
        refine (stc_any _ _ k _ A x _ HM.out.symm HR9.out (by omega) HCAP.out).mono ?_
        rw [← HTR.out]
        rintro e w8 ⟨rfl, hb8⟩
        have s8 := hb8.size
        have HB8 : Hid (Below w5.heap.size w5 w8) := hB9.out.trans (hb8.mono (by omega))
        have HK8 : Hid (Row 1 w8 q4.heap.size wo.heap.size (.slice ka u kc) u (keysL T)) := HK5.out.below HB8.out (by omega)
        have z0' : w8.cell? ⟨g, t * 2, none⟩ = some (.int .i64 x) := by rw [hb8.cell (p := ⟨g, t * 2, none⟩) (by show g < _; omega)]; exact z0
        clear hb8 z0 z1 hB9 HR9
        by_cases hgt : S0 < tr * 4
        case neg =>
          have dg : decide (S0 < tr * 4) = false := decide_eq_false hgt
          clear hli
          go_wp2_with fail
          go_roundw
          case rel => exact ⟨t + 1, by omega, by go_num, HB8⟩
          case measure => simp [intOf]; omega
        case pos =>
          have dg : decide (S0 < tr * 4) = true := decide_eq_true hgt
          have hin : hasB (keysL T) x = true := by
            cases hh : hasB (keysL T) x with
            | true => rfl
            | false =>
              exfalso
              have := hli (fun r hr e => by
                obtain ⟨i, hi⟩ := List.getElem?_of_mem hr
                have : (keysL T)[i]? = some x := by unfold keysL; rw [List.getElem?_map, hi]; show some r.1 = _; rw [e]
                rw [hasB_yes this] at hh
                simp at hh)
              omega
          clear hli
          go_wp2_with fail
          go_at_call 27
          refine (within_any (keysL T) _ _ u _ x _ HK8.out).mono ?_
          rw [hin]
          rintro e w' ⟨rfl, rfl⟩
          go_wp2_with fail
          go_roundw
          case rel => exact ⟨t + 1, by omega, by go_num, HB8⟩
          case measure => simp [intOf]; omega

end Go.Proofs.Ytophppnllkadoaa
