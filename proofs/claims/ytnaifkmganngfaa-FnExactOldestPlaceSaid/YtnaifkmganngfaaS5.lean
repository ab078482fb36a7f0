/- Which archives are valid: the model. -/
import Derived.Test.YtnaifkmganngfaaS4
namespace Go.Proofs.Ytnaifkmganngfaa
open Go.RowKit


set_option maxRecDepth 100000 in
set_option maxHeartbeats 4000000 in
theorem saok_any (lo hi n : Nat) (v : Value) (t : Int) (D : List (List Rw)) (w : World) (hr : KRow w lo hi v n D) (hh : hi ≤ w.heap.size) :
    Calls Try.prog 15 #[.agg #[v, .int .i64 t]] w fun e w' => e = .returned (.bool (arB t D)) ∧ Below w.heap.size w w' := by
  obtain ⟨ad, cp, rfl⟩ := hr.slice
  have hm := hr.len
  have HD := Lib.hid hr.2
  have HR := Lib.hid hr
  clear hr
  by_cases h3 : n = 3
  case neg =>
    have hb : ((n : Int) != 3) = true := by simp; omega
    have Hno : Hid (arB t D = false) := by show _ = _; exact arB_no fun h => h3 (by rw [← HD.out]; exact h.1)
    clear h3
    go_enter Try.func15, Try.ntmps15
    go_wp2
    go_ret
    exact ⟨by rw [Hno.out]; rfl, by go_grown⟩
  case pos =>
  subst h3
  cases hin : inB t 0 1000000 with
  | false =>
    have Hno : Hid (arB t D = false) := by show _ = _; exact arB_no fun h => by rw [inB_iff.2 ⟨h.2.1, h.2.2.1⟩] at hin; cases hin
    go_enter Try.func15, Try.ntmps15
    go_wp2_with (go_at_call 37; refine (in_any t 0 1000000 _).mono ?_; rw [hin]; rintro e w2 ⟨rfl, rfl⟩)
    go_ret
    exact ⟨by rw [Hno.out]; rfl, by go_grown⟩
  | true =>
  obtain ⟨t0, t1⟩ := inB_iff.1 hin
  go_enter Try.func15, Try.ntmps15
  go_wp2_with (go_at_call 37; refine (in_any t 0 1000000 _).mono ?_; rw [hin]; rintro e w2 ⟨rfl, rfl⟩)
  obtain ⟨q11, hq11⟩ : ∃ q, q = (w.alloc (.cells #[.slice ad 3 cp, .int .i64 t] 28)) := ⟨_, rfl⟩
  have hb11 : Below w.heap.size w q11 := by rw [hq11]; go_grown
  have sz11 : w.heap.size + 1 ≤ q11.heap.size := by rw [hq11]; simp
  have c11_0 : q11.cell? ⟨w.heap.size, 0, none⟩ = some (.slice ad 3 cp) := by rw [hq11, new_at (by simp)]; rfl
  have c11_1 : q11.cell? ⟨w.heap.size, 1, none⟩ = some (.int .i64 t) := by rw [hq11, new_at (by simp)]; rfl
  have B11 : Hid (Below w.heap.size w q11) := Lib.hid hb11
  rw [← hq11]
  have d11_0 : w.heap.size < q11.heap.size := by omega
  have e11_0 : w.heap.size ≠ q11.heap.size := by omega
  clear hq11 hb11
  have HC0 := Lib.hid c11_0
  have HC1 := Lib.hid c11_1
  have RQ : Hid (KRow q11 lo hi (.slice ad 3 cp) 3 D) := HR.out.below B11.out hh
  have hq : w.heap.size < q11.heap.size := by omega
  go_loopw [3] (fun i wr => ∃ j : Nat, j ≤ 3 ∧ i = .int .i64 (j : Int) ∧ Hid (∀ (u : Nat) (l : List Rw), u < j → D[u]? = some l → levP (szK u) t l) ∧ Hid (Below q11.heap.size q11 wr)) (fun i _ => 3 - (intOf i).toNat)
  case atStart => exact ⟨0, Nat.zero_le _, rfl, fun u l hu => absurd hu (Nat.not_lt_zero _), Below.refl _ _⟩
  case round =>
    obtain ⟨wo, rfl⟩ : ∃ x, x = wr := ⟨_, rfl⟩
    obtain ⟨j, hj, rfl, hA, hB⟩ := hrel
    have hsz := hB.out.size
    have k0 : wo.cell? ⟨w.heap.size, 0, none⟩ = some (.slice ad 3 cp) := by rw [hB.out.cell (p := ⟨w.heap.size, 0, none⟩) hq]; exact HC0.out
    have k1 : wo.cell? ⟨w.heap.size, 1, none⟩ = some (.int .i64 t) := by rw [hB.out.cell (p := ⟨w.heap.size, 1, none⟩) hq]; exact HC1.out
    have RO : Hid (KRow wo lo hi (.slice ad 3 cp) 3 D) := RQ.out.below hB.out (by omega)
    have HBo : Hid (Below w.heap.size w wo) := B11.out.trans (hB.out.mono (by omega))
    by_cases hlt : j < 3
    case neg =>
      obtain rfl : j = 3 := by omega
      have Hy : Hid (arB t D = true) := arB_iff.2 ⟨HD.out, by omega, by omega, fun i l hl => hA.out i l (by have := lt_of_at hl; rw [HD.out] at this; exact this) hl⟩
      go_wp2
      go_ret
      exact ⟨by rw [Hy.out]; rfl, HBo.out⟩
    case pos =>
    obtain ⟨l, hl⟩ : ∃ l, D[j]? = some l := ⟨_, List.getElem?_eq_getElem (by rw [HD.out]; exact hlt)⟩
    obtain ⟨G, x, y, rfl, _, hG, e1, hrow⟩ := RO.out.cell hl
    have q0 : (0 : Int) ≤ (j : Int) := by omega
    have q1 : (j : Int) < 3 := by omega
    obtain ⟨s0, s1⟩ := szK_in hlt
    have HLl := Lib.hid hl
    obtain ⟨m, hm9⟩ : ∃ m, m = l.length := ⟨_, rfl⟩
    rw [← hm9] at e1 hrow
    have HM := Lib.hid hm9
    have HRow := Lib.hid hrow
    have hmm : m ≤ 1100000 := by obtain ⟨_, _, _, h, _⟩ := hrow.opened; exact h
    have hws : w.heap.size < wo.heap.size := by omega
    have hhw : hi ≤ wo.heap.size := by omega
    have HSz := Lib.hid (ssz_any j hlt)
    obtain ⟨z, hz⟩ : ∃ z, z = szK j := ⟨_, rfl⟩
    rw [← hz] at s0 s1 HSz
    have HZ := Lib.hid hz
    obtain ⟨k2, k3, k4, k5, k6⟩ := kept_in t0 s0
    obtain ⟨fq, hf⟩ : ∃ f, f = t / z := ⟨_, rfl⟩
    obtain ⟨k, hk⟩ : ∃ k, k = kept z t := ⟨_, rfl⟩
    have htd : Int.tdiv t z = fq := by rw [hf]; exact Int.tdiv_eq_ediv_of_nonneg t0
    rw [← hk] at k2 k3 k4
    rw [← hf] at k4 k5 k6
    have wf : IntKind.i64.wrap fq = fq := IntWalk.i64_in _ (by omega)
    have z0 : (z == 0) = false := by simp; omega
    have z1 : z ≠ 0 := by omega
    have hkf : (8 < fq → k = 8) ∧ (fq ≤ 8 → k = fq) := by rw [hf, hk]; unfold kept; constructor <;> intro h <;> split <;> omega
    have HKF := Lib.hid hkf
    clear hkf
    have HF := Lib.hid hf
    have HK := Lib.hid hk
    have Hbad : ∀ (P : ¬ levP z t l), Hid (arB t D = false) := fun hno => by
      show _ = _
      refine arB_no fun h => hno ?_
      have := h.2.2.2 j l HLl.out
      rw [← HZ.out] at this
      exact this
    have HBadL := Lib.hid Hbad
    clear hl hm9 hrow hz hf hk Hbad
    go_wp2_with fail
    go_at_call 38
    refine (HSz.out _).mono ?_
    rintro e w4 ⟨rfl, rfl⟩
    go_upto_if 31 with fail
    go_cut [6] (fun s6 wx => s6 = .int .i64 k ∧ wo = wx)
    case first =>
      by_cases h8 : 8 < fq
      · have d8 : decide (8 < fq) = true := decide_eq_true h8
        have e8 := HKF.out.1 h8
        go_wp2_with fail
        go_meet
        exact ⟨by rw [e8], rfl⟩
      · have d8 : decide (8 < fq) = false := decide_eq_false h8
        have e8 := HKF.out.2 (show fq ≤ 8 by omega)
        go_wp2_with fail
        go_meet
        exact ⟨by rw [e8], rfl⟩
    case rest =>
    obtain ⟨rfl, rfl⟩ := hcut
    clear HKF htd z0 z1
    by_cases hlen : (m : Int) = k
    case neg =>
      have hb : ((m : Int) != k) = true := by simp; exact hlen
      have He := HBadL.out fun h => hlen (by rw [HK.out, HM.out]; exact h.1)
      clear hlen
      go_wp2_with fail
      go_ret
      exact ⟨by rw [He.out]; rfl, HBo.out⟩
    case pos =>
    have hb : ((m : Int) != k) = false := by simp; exact hlen
    have W0 : Hid (∀ u : Nat, (u : Int) < k → IntKind.i64.wrap (fq - k + u) = fq - k + u) := fun u hu => IntWalk.i64_in _ (by omega)
    have wk : IntKind.i64.wrap (fq - k) = fq - k := IntWalk.i64_in _ (by omega)
    have HLen := Lib.hid hlen
    have E1 := Lib.hid e1
    clear hlen
    go_wp2_with fail
    go_loopw [7] (fun i wr => ∃ u : Nat, (u : Int) ≤ k ∧ i = .int .i64 (u : Int) ∧ Hid (∀ (q : Nat) (r : Rw), q < u → l[q]? = some r → rowP z ((fq - k + q) * z) r) ∧ Hid (Below wo.heap.size wo wr)) (fun i _ => m - (intOf i).toNat)
    case atStart => exact ⟨0, by omega, rfl, fun q r hq => absurd hq (Nat.not_lt_zero _), Below.refl _ _⟩
    case round =>
      obtain ⟨wp, rfl⟩ : ∃ x, x = wr := ⟨_, rfl⟩
      obtain ⟨u, hu, rfl, hA0, hB2⟩ := hrel
      have hs2 := hB2.out.size
      have j0 : wp.cell? ⟨w.heap.size, 0, none⟩ = some (.slice (some ⟨G, 0, none⟩) 3 cp) := by rw [hB2.out.cell (p := ⟨w.heap.size, 0, none⟩) hws]; exact k0
      have j1 : wp.cell? ⟨w.heap.size, 1, none⟩ = some (.int .i64 t) := by rw [hB2.out.cell (p := ⟨w.heap.size, 1, none⟩) hws]; exact k1
      have j2 : wp.cell? ⟨G, j, none⟩ = some (.slice x m y) := by rw [hB2.out.cell (p := ⟨G, j, none⟩) (by show G < _; omega)]; exact E1.out
      have HBp : Hid (Below w.heap.size w wp) := HBo.out.trans (hB2.out.mono (by omega))
      by_cases hlu : (u : Int) < k
      case neg =>
        have hge : ¬ ((u : Int) < k) := hlu
        have hHA : Hid (∀ (u : Nat) (l : List Rw), u < j + 1 → D[u]? = some l → levP (szK u) t l) := fun q l' hq hl' => by
          by_cases e : q = j
          · subst e
            rw [HLl.out] at hl'
            obtain rfl := Option.some.inj hl'
            rw [← HZ.out]
            refine ⟨by rw [← HM.out, ← HK.out]; exact HLen.out, fun i r hi => ?_⟩
            have hil := lt_of_at hi
            have h5 := HLen.out
            have h6 := HM.out
            have := hA0.out i r (by omega) hi
            rw [HF.out, HK.out] at this
            exact this
          · exact hA.out q l' (by omega) hl'
        have HBn : Hid (Below q11.heap.size q11 wp) := hB.out.trans (hB2.out.mono (by omega))
        clear hA0 hA k0 k1 j2
        go_wp2_with fail
        go_roundw
        case rel => exact ⟨j + 1, by omega, by go_num, hHA, HBn⟩
        case measure => simp [intOf]; omega
      case pos =>
      have hum : u < m := by have := HLen.out; omega
      obtain ⟨r, hr⟩ : ∃ r, l[u]? = some r := ⟨_, List.getElem?_eq_getElem (by rw [← HM.out]; exact hum)⟩
      obtain ⟨g, rfl, _, hg, c0, c1, c2, c3, c4⟩ := row5_cell (HRow.out.below hB2.out hhw) hr
      obtain ⟨x0, x1, x2, x3, x4⟩ := r
      have HRr := Lib.hid hr
      simp only at c0 c1 c2 c3 c4
      have u0 : (0 : Int) ≤ (u : Int) := by omega
      have u1 : (u : Int) < (m : Int) := by omega
      have wj := W0.out u hlu
      have gw : g < wp.heap.size := by omega
      have Gw : G < wp.heap.size := by omega
      have ww : w.heap.size < wp.heap.size := by omega
      obtain ⟨yy, hy⟩ : ∃ yy, yy = (fq - k + u) * z := ⟨_, rfl⟩
      have wy : IntKind.i64.wrap ((fq - k + u) * z) = yy := by
        rw [hy]
        refine IntWalk.i64_in _ ?_
        have h2 : 0 ≤ (fq - k + u) * z := Int.mul_nonneg (by omega) (by omega)
        have h3 : (fq - k + u) * z ≤ 1000000 * 16 := Int.mul_le_mul (by omega) s1 (by omega) (by omega)
        omega
      have HY := Lib.hid hy
      have Hno : ∀ (P : ¬ rowP z yy (x0, x1, x2, x3, x4)), Hid (arB t D = false) := fun hno => HBadL.out fun h => hno (by
        have := h.2 u _ HRr.out
        rw [← HF.out, ← HK.out, ← HY.out] at this
        exact this)
      have HNo := Lib.hid Hno
      clear hr hy Hno
      by_cases e1 : x1 = z
      case neg =>
        have b1 : (x1 != z) = true := by simp [e1]
        have He := HNo.out (fun h => e1 h.2.1)
        clear e1
        clear hA0
        go_wp2_with fail
        go_ret
        exact ⟨by rw [He.out]; rfl, HBp.out.trans (by go_grown)⟩
      case pos =>
      have b1 : (x1 != z) = false := by simp [e1]
      have Ex := Lib.hid e1
      clear e1
      by_cases e0 : x0 = yy
      case neg =>
        have b0 : (x0 != yy) = true := by simp [e0]
        have He := HNo.out (fun h => e0 h.1)
        clear e0
        clear hA0
        go_wp2_with fail
        go_ret
        exact ⟨by rw [He.out]; rfl, HBp.out.trans (by go_grown)⟩
      case pos =>
      have b0 : (x0 != yy) = false := by simp [e0]
      have Ey := Lib.hid e0
      clear e0
      cases v1 : vB x2 with
      | false =>
        have He := HNo.out (fun h => by have := vB_iff.2 h.2.2.1; simp only at this; rw [v1] at this; cases this)
        clear hA0
        go_wp2_with fail
        go_at_call 39
        refine (val_any _ _).mono ?_
        rw [v1]
        rintro e w7 ⟨rfl, rfl⟩
        go_wp2_with fail
        go_ret
        exact ⟨by rw [He.out]; rfl, HBp.out.trans (by go_grown)⟩
      | true =>
      cases v2 : vB x3 with
      | false =>
        have He := HNo.out (fun h => by have := vB_iff.2 h.2.2.2.1; simp only at this; rw [v2] at this; cases this)
        clear hA0
        go_wp2_with fail
        go_at_call 39
        refine (val_any _ _).mono ?_
        rw [v1]
        rintro e w7 ⟨rfl, rfl⟩
        go_wp2_with fail
        go_at_call 39
        refine (val_any _ _).mono ?_
        rw [v2]
        rintro e w8 ⟨rfl, rfl⟩
        go_wp2_with fail
        go_ret
        exact ⟨by rw [He.out]; rfl, HBp.out.trans (by go_grown)⟩
      | true =>
      by_cases e3 : x3 < x2
      case pos =>
        have d3 : decide (x3 < x2) = true := decide_eq_true e3
        have He := HNo.out (fun h => by have := min_max s0 h.2.2; simp only at this; omega)
        clear hA0
        go_wp2_with fail
        go_at_call 39
        refine (val_any _ _).mono ?_
        rw [v1]
        rintro e w7 ⟨rfl, rfl⟩
        go_wp2_with fail
        go_at_call 39
        refine (val_any _ _).mono ?_
        rw [v2]
        rintro e w8 ⟨rfl, rfl⟩
        go_wp2_with fail
        go_ret
        exact ⟨by rw [He.out]; rfl, HBp.out.trans (by go_grown)⟩
      case neg =>
      have d3 : decide (x3 < x2) = false := decide_eq_false e3
      have hm1 := mul_in s0 s1 v1
      have hm2 := mul_in s0 s1 v2
      obtain ⟨p, hp⟩ : ∃ p, p = z * x2 := ⟨_, rfl⟩
      obtain ⟨q, hq9⟩ : ∃ q, q = z * x3 := ⟨_, rfl⟩
      have wpp : IntKind.i64.wrap (z * x2) = p := by rw [hp]; exact IntWalk.i64_in _ (by omega)
      have wqq : IntKind.i64.wrap (z * x3) = q := by rw [hq9]; exact IntWalk.i64_in _ (by omega)
      have Hp := Lib.hid hp
      have Hq := Lib.hid hq9
      clear hp hq9 hm1 hm2
      by_cases e4 : x4 < p
      case pos =>
        have d4 : decide (x4 < p) = true := decide_eq_true e4
        have He := HNo.out (fun h => by have h2 := h.2.2.2.2.1; have h3 := Hp.out; simp only at h2; omega)
        clear hA0
        go_wp2_with fail
        go_at_call 39
        refine (val_any _ _).mono ?_
        rw [v1]
        rintro e w7 ⟨rfl, rfl⟩
        go_wp2_with fail
        go_at_call 39
        refine (val_any _ _).mono ?_
        rw [v2]
        rintro e w8 ⟨rfl, rfl⟩
        go_wp2_with fail
        go_ret
        exact ⟨by rw [He.out]; rfl, HBp.out.trans (by go_grown)⟩
      case neg =>
      have d4 : decide (x4 < p) = false := decide_eq_false e4
      by_cases e5 : q < x4
      case pos =>
        have d5 : decide (q < x4) = true := decide_eq_true e5
        have He := HNo.out (fun h => by have h2 := h.2.2.2.2.2; have h3 := Hq.out; simp only at h2; omega)
        clear hA0
        go_wp2_with fail
        go_at_call 39
        refine (val_any _ _).mono ?_
        rw [v1]
        rintro e w7 ⟨rfl, rfl⟩
        go_wp2_with fail
        go_at_call 39
        refine (val_any _ _).mono ?_
        rw [v2]
        rintro e w8 ⟨rfl, rfl⟩
        go_wp2_with fail
        go_ret
        exact ⟨by rw [He.out]; rfl, HBp.out.trans (by go_grown)⟩
      case neg =>
      have d5 : decide (q < x4) = false := decide_eq_false e5
      have HA2 : Hid (∀ (q : Nat) (r : Rw), q < u + 1 → l[q]? = some r → rowP z ((fq - k + q) * z) r) := fun q' r hq' hr => by
        by_cases e : q' = u
        · subst e
          rw [HRr.out] at hr
          obtain rfl := Option.some.inj hr
          exact ⟨by rw [← HY.out]; exact Ey.out, Ex.out, vB_iff.1 v1, vB_iff.1 v2, by have := Hp.out; simp only; omega, by have := Hq.out; simp only; omega⟩
        · exact hA0.out q' r (by omega) hr
      clear hA0
      go_wp2_with fail
      go_at_call 39
      refine (val_any _ _).mono ?_
      rw [v1]
      rintro e w7 ⟨rfl, rfl⟩
      go_wp2_with fail
      go_at_call 39
      refine (val_any _ _).mono ?_
      rw [v2]
      rintro e w8 ⟨rfl, rfl⟩
      go_wp2_with fail
      go_roundw
      case rel => exact ⟨u + 1, by omega, by go_num, HA2, hB2.out.trans (by go_grown)⟩
      case measure => have hlm := HLen.out; simp [intOf]; omega

end Go.Proofs.Ytnaifkmganngfaa
