/- The first loop: both sides. -/
import Derived.Test.YtjenjdhoblcohaaPb
import Derived.Test.YtjenjdhoblcohaaGc
namespace Go.Proofs.Ytjenjdhoblcohaa
open Go.RowKit

theorem capOk.le {a : Option Addr} {n m c : Nat} (h : capOk (.slice a n c) m) : m ≤ c ∧ n = m := by
  obtain ⟨a', c', e, h⟩ := h
  cases e
  exact ⟨h, rfl⟩
theorem Row.take {w : World} {lo hi n c : Nat} {a : Option Addr} {Z : List Int} (h : Row 1 w lo hi (.slice a n c) n Z) {k : Nat} (hk : k ≤ n) : Row 1 w lo hi (.slice a k c) k (Z.take k) := by
  obtain ⟨h0, h⟩ := h
  refine ⟨by rw [List.length_take]; omega, ?_⟩
  rcases h with ⟨rfl, _⟩ | ⟨g, cap, e, h1, h2, h3, h4, h5⟩
  · exact .inl ⟨by omega, a, c, by rw [show k = 0 by omega]⟩
  · cases e
    refine .inr ⟨g, c, rfl, h1, h2, by omega, fun q z hz => h4 q z ?_, h5⟩
    rw [List.getElem?_take] at hz
    split at hz
    · exact hz
    · cases hz
theorem fst_found {f : Nat → Bool} {n k : Nat} {R : Int} (hk : k ≤ n) (h : fstK f (n + 1) (n + 1 - k) = R) (hf : f k = true) : R = (k : Int) := by
  obtain ⟨q, hq⟩ : ∃ q, n + 1 - k = q + 1 := ⟨n - k, by omega⟩
  rw [hq] at h
  unfold fstK at h
  have e : n + 1 - (q + 1) = k := by omega
  rw [e, if_pos hf] at h
  exact h.symm
theorem fst_next {f : Nat → Bool} {n k : Nat} {R : Int} (hk : k ≤ n) (h : fstK f (n + 1) (n + 1 - k) = R) (hf : f k = false) : fstK f (n + 1) (n + 1 - (k + 1)) = R := by
  obtain ⟨q, hq⟩ : ∃ q, n + 1 - k = q + 1 := ⟨n - k, by omega⟩
  rw [hq] at h
  unfold fstK at h
  have e : n + 1 - (q + 1) = k := by omega
  rw [e, if_neg (by rw [hf]; exact Bool.false_ne_true)] at h
  rw [show n + 1 - (k + 1) = q by omega]
  exact h
/-- Whether there is a loop behind the first k of an order. -/
def ufB (A B Z : List Int) (d : Int) (k : Nat) : Bool := !(loopsL ((Z.take k).foldl (upd1 A) B) d).isEmpty
theorem empty_dec (l : List Int) : decide (0 < l.length) = !l.isEmpty := by cases l <;> simp
theorem ufB_dec {A B Z : List Int} {d : Int} {k : Nat} {t : Bool} (h : ufB A B Z d k = t) : decide (0 < (loopsL ((Z.take k).foldl (upd1 A) B) d).length) = t := by rw [empty_dec]; exact h

set_option maxRecDepth 100000 in
set_option maxHeartbeats 4000000 in
theorem ufl_any (M lo1 hi1 lo2 hi2 lo3 hi3 n : Nat) (s1 s2 s3 : Value) (B A Z : List Int) (d : Int) (w : World) (hM0 : 0 < M) (hM : M ≤ 10) (hn : n ≤ 10) (hcap : capOk s3 n) (hr1 : Row 1 w lo1 hi1 s1 M B) (hr2 : Row 1 w lo2 hi2 s2 M A) (hr3 : Row 1 w lo3 hi3 s3 n Z) (hh1 : hi1 ≤ w.heap.size) (hh2 : hi2 ≤ w.heap.size) (hh3 : hi3 ≤ w.heap.size) :
    Calls Try.prog 66 #[.agg #[s1, s2, .int .i64 d], s3] w fun e w' => e = .returned (.int .i64 (fstK (ufB A B Z d) (n + 1) (n + 1))) ∧ Below w.heap.size w w' := by
  obtain ⟨ba, bc, rfl⟩ := hr1.slice
  obtain ⟨aa, ac, rfl⟩ := hr2.slice
  obtain ⟨oa, oc, rfl⟩ := hr3.slice
  have hnc := hcap.le.1
  obtain ⟨R, hR⟩ : ∃ R, R = fstK (ufB A B Z d) (n + 1) (n + 1) := ⟨_, rfl⟩
  rw [← hR]
  have H0 : Hid (fstK (ufB A B Z d) (n + 1) (n + 1 - 0) = R) := hR.symm
  have hwn : IntKind.i64.wrap ((n : Int) + 1) = (n : Int) + 1 := by rw [IntKind.wrap_i64]; omega
  clear hcap hR
  go_enter Try.func66, Try.ntmps66
  go_upto_region 1 with fail
  obtain ⟨v0, hv0⟩ : ∃ v0, v0 = w.alloc (.cells #[.slice ba M bc, .slice aa M ac, .int .i64 d] 67) := ⟨_, rfl⟩
  have hs0 : v0.heap.size = w.heap.size + 1 := by rw [hv0]; simp
  have HB0 : Hid (Below w.heap.size w v0) := by rw [hv0]; exact Lib.hid ((Below.refl _ _).alloc (Nat.le_refl _) _)
  have u0 : v0.cell? ⟨w.heap.size, 0, none⟩ = some (.slice ba M bc) := by rw [hv0]; simp
  have u1' : v0.cell? ⟨w.heap.size, 1, none⟩ = some (.slice aa M ac) := by rw [hv0]; simp
  have u2' : v0.cell? ⟨w.heap.size, 2, none⟩ = some (.int .i64 d) := by rw [hv0]; simp
  have hw0 : w.heap.size < v0.heap.size := by omega
  have U0 := Lib.hid u0
  have U1 := Lib.hid u1'
  have U2 := Lib.hid u2'
  have HR1 : Hid (Row 1 v0 lo1 hi1 (.slice ba M bc) M B) := hr1.below HB0.out hh1
  have HR2 : Hid (Row 1 v0 lo2 hi2 (.slice aa M ac) M A) := hr2.below HB0.out hh2
  have HR3 : Hid (Row 1 v0 lo3 hi3 (.slice oa n oc) n Z) := hr3.below HB0.out hh3
  rw [← hv0]
  clear hv0 hr1 hr2 hr3 u0 u1' u2'
  go_wp2_with fail
  go_loopw [5, 9] (fun _ i wr => ∃ k : Nat, k ≤ n + 1 ∧ i = .int .i64 (k : Int) ∧ Hid (Below v0.heap.size v0 wr) ∧ Hid (fstK (ufB A B Z d) (n + 1) (n + 1 - k) = R)) (fun _ i _ => n + 1 - (intOf i).toNat)
  case atStart => exact ⟨0, Nat.zero_le _, rfl, Below.refl _ _, H0⟩
  case round =>
    obtain ⟨k, hk', rfl, hB, hF⟩ := hrel
    have u0 : wr.cell? ⟨w.heap.size, 0, none⟩ = some (.slice ba M bc) := by rw [hB.out.cell (p := ⟨w.heap.size, 0, none⟩) hw0]; exact U0.out
    have u1' : wr.cell? ⟨w.heap.size, 1, none⟩ = some (.slice aa M ac) := by rw [hB.out.cell (p := ⟨w.heap.size, 1, none⟩) hw0]; exact U1.out
    have u2' : wr.cell? ⟨w.heap.size, 2, none⟩ = some (.int .i64 d) := by rw [hB.out.cell (p := ⟨w.heap.size, 2, none⟩) hw0]; exact U2.out
    by_cases hlt : k < n + 1
    · have hk : k ≤ n := by omega
      have q0 : (k : Int) < (n : Int) + 1 := by omega
      have q1 : (0 : Int) ≤ (k : Int) := by omega
      have q2 : k ≤ oc := by omega
      have q3 : (k : Int) ≤ (oc : Int) := by omega
      go_wp2_with fail
      refine wp_region_held_drew (S := (fun w' => w'.cell? ⟨w.heap.size, 0, none⟩ = some (.slice ba M bc) ∧ w'.cell? ⟨w.heap.size, 1, none⟩ = some (.slice aa M ac) ∧ w'.cell? ⟨w.heap.size, 2, none⟩ = some (.int .i64 d) ∧ Hid (Below v0.heap.size v0 w'))) (by kernel_rfl) ?_ (fun hHeld => ?_)
      · exact ⟨u0, u1', u2', Lib.hid hB.out.drew⟩
      refine step_read 0 12 rfl rfl (by kernel_rfl) (by kernel_rfl) (by kernel_rfl) (fun _ _ _ h => h) (by rfl) (v := ?_) (fun w hSw => ?_) (by assumption) ?_; rotate_left; (focus ((try dsimp only at hSw); go_simp; first | done | exact rfl)); simp only [List.set]
      refine step_read 1 13 rfl rfl (by kernel_rfl) (by kernel_rfl) (by kernel_rfl) (fun _ _ _ h => h) (by rfl) (v := ?_) (fun w hSw => ?_) (by assumption) ?_; rotate_left; (focus ((try dsimp only at hSw); go_simp; first | done | exact rfl)); simp only [List.set]
      refine step_read 2 14 rfl rfl (by kernel_rfl) (by kernel_rfl) (by kernel_rfl) (fun _ _ _ h => h) (by rfl) (v := ?_) (fun w hSw => ?_) (by assumption) ?_; rotate_left; (focus ((try dsimp only at hSw); go_simp; first | done | exact rfl)); simp only [List.set]
      refine step_read 3 15 rfl rfl (by kernel_rfl) (by kernel_rfl) (by kernel_rfl) (fun _ _ _ h => h) (by rfl) (v := ?_) (fun w hSw => ?_) (by assumption) ?_; rotate_left; (focus ((try dsimp only at hSw); go_simp; first | done | exact rfl)); simp only [List.set]
      refine step_read 5 17 rfl rfl (by kernel_rfl) (by kernel_rfl) (by kernel_rfl) (fun _ _ _ h => h) (by rfl) (v := ?_) (fun w hSw => ?_) (by assumption) ?_; rotate_left; (focus ((try dsimp only at hSw); go_simp; first | done | exact rfl)); simp only [List.set]
      refine step_read 6 18 rfl rfl (by kernel_rfl) (by kernel_rfl) (by kernel_rfl) (fun _ _ _ h => h) (by rfl) (v := ?_) (fun w hSw => ?_) (by assumption) ?_; rotate_left; (focus ((try dsimp only at hSw); go_simp; first | done | exact rfl)); simp only [List.set]
      refine wpAnyH_ready (rs := [4]) (by kernel_rfl) (by simp) ?_
      refine AllReadyH.cons rfl (fun Kc hK => ?_) (AllReadyH.nil)
      go_simp
      go_at_call 57
      refine (uhops_any M lo1 hi1 lo2 hi2 lo3 hi3 k _ _ _ B A (Z.take k) d _ hM0 hM (HR1.out.below hHeld.2.2.2.out (by omega)) (HR2.out.below hHeld.2.2.2.out (by omega)) ((HR3.out.below hHeld.2.2.2.out (by omega)).take hk) (by have := hHeld.2.2.2.out.size; omega) (by have := hHeld.2.2.2.out.size; omega) (by have := hHeld.2.2.2.out.size; omega)).mono ?_
      rintro e u1 ⟨rv, rfl, hO⟩
      obtain ⟨ra, rc, hrv⟩ := own_slice hO.row
      subst hrv
      have HO := Lib.hid hO
      have HBu : Hid (Below v0.heap.size v0 u1) := hHeld.2.2.2.out.trans (hO.below.mono hHeld.2.2.2.out.size)
      clear hHeld hO
      refine hK.out _ _ ?_ (fun hHeld => ?_)
      · exact ⟨by rw [HBu.out.cell (p := ⟨w.heap.size, 0, none⟩) hw0]; exact U0.out, by rw [HBu.out.cell (p := ⟨w.heap.size, 1, none⟩) hw0]; exact U1.out, by rw [HBu.out.cell (p := ⟨w.heap.size, 2, none⟩) hw0]; exact U2.out, HBu⟩
      clear hK Kc
      refine wpAnyH_ready (rs := [7]) (by kernel_rfl) (by simp) ?_
      refine AllReadyH.cons rfl (fun Kc hK => ?_) (AllReadyH.nil)
      go_simp
      go_at_call 24
      refine (iloops_any _ _ _ M _ d _ (HO.out.toRow (by omega)) (Nat.le_refl _)).mono ?_
      rintro e u2 ⟨lv, rfl, hlr, hb2⟩
      obtain ⟨la, lc, hlv⟩ := hlr.slice
      subst hlv
      have HBu2 : Hid (Below v0.heap.size v0 u2) := HBu.out.trans (hb2.mono HBu.out.size)
      clear hHeld hlr hb2
      refine hK.out _ _ ?_ (fun hHeld => ?_)
      · exact ⟨by rw [HBu2.out.cell (p := ⟨w.heap.size, 0, none⟩) hw0]; exact U0.out, by rw [HBu2.out.cell (p := ⟨w.heap.size, 1, none⟩) hw0]; exact U1.out, by rw [HBu2.out.cell (p := ⟨w.heap.size, 2, none⟩) hw0]; exact U2.out, HBu2⟩
      clear hK Kc
      refine step_read 8 20 rfl rfl (by kernel_rfl) (by kernel_rfl) (by kernel_rfl) (fun _ _ _ h => h) (by rfl) (v := ?_) (fun w hSw => ?_) (by assumption) ?_; rotate_left; (focus ((try dsimp only at hSw); go_simp; first | done | exact rfl)); simp only [List.set]
      refine step_read 9 21 rfl rfl (by kernel_rfl) (by kernel_rfl) (by kernel_rfl) (fun _ _ _ h => h) (by rfl) (v := ?_) (fun w hSw => ?_) (by assumption) ?_; rotate_left; (focus ((try dsimp only at hSw); go_simp; first | done | exact rfl)); simp only [List.set]
      refine wpAnyH_done (by kernel_rfl) ?_ _
      clear hHeld
      cases hb : ufB A B Z d k with
      | true =>
        have hdl := ufB_dec hb
        have hV := Lib.hid (fst_found hk hF.out hb)
        rw [hdl]
        clear hb hdl HO
        go_wp2_with fail
        go_ret
        exact ⟨by rw [hV.out]; rfl, HB0.out.trans (HBu2.out.mono (by omega))⟩
      | false =>
        have hdl := ufB_dec hb
        have HF2 := Lib.hid (fst_next hk hF.out hb)
        rw [hdl]
        clear hb hdl HO hF hB
        go_wp2_with fail
        go_roundw
        case rel => exact ⟨k + 1, by omega, by go_num, HBu2, HF2⟩
        case measure => simp [intOf]; omega
    · obtain rfl : k = n + 1 := by omega
      have hge : ¬ (((n + 1 : Nat) : Int) < (n : Int) + 1) := by omega
      have hV : Hid (R = -1) := by
        have := hF.out
        rw [Nat.sub_self] at this
        exact this.symm
      go_wp2_with fail
      go_ret
      exact ⟨by rw [hV.out]; rfl, HB0.out.trans (hB.out.mono (by omega))⟩

theorem badK_uf (N : Int) (L1 L2 : List Ed) (Z : List Int) (d : Int) : ufB (towK N L2 d N.toNat) (towK N L1 d N.toNat) Z d = badK N L1 L2 Z d := by
  funext k
  unfold ufB badK
  rw [← mixK_none N L1 L2 d N.toNat, upd_fold]
  rfl
theorem fstL_no {N1 N2 d : Int} {L1 L2 : List Ed} {Z : List Int} (h : ¬ (fineB N1 L1 N2 L2 d = true ∧ Z.length ≤ 10)) : fstL N1 L1 N2 L2 Z d = -2 := by unfold fstL; rw [if_neg h]
theorem fstL_yes {N1 N2 d : Int} {L1 L2 : List Ed} {Z : List Int} (h : fineB N1 L1 N2 L2 d = true) (hl : Z.length ≤ 10) : fstL N1 L1 N2 L2 Z d = fstK (badK N1 L1 L2 Z d) (Z.length + 1) (Z.length + 1) := by unfold fstL; rw [if_pos ⟨h, hl⟩]

set_option maxRecDepth 100000 in
set_option maxHeartbeats 4000000 in
theorem ifst_any (N1 N2 : Int) (lo1 hi1 n1 lo2 hi2 n2 : Nat) (s1 s2 : Value) (L1 L2 : List Ed) (s3 : Value) (lo3 hi3 m : Nat) (Z : List Int) (d : Int) (w : World) (hL1 : L1.length = n1) (hL2 : L2.length = n2) (hr1 : Row 3 w lo1 hi1 s1 n1 (flat L1)) (hr2 : Row 3 w lo2 hi2 s2 n2 (flat L2)) (hh1 : hi1 ≤ w.heap.size) (hh2 : hi2 ≤ w.heap.size) (hcap : capOk s3 m) (hr3 : Row 1 w lo3 hi3 s3 m Z) (hh3 : hi3 ≤ w.heap.size) :
    Calls Try.prog 28 #[.agg #[.int .i64 N1, s1], .agg #[.int .i64 N2, s2], s3, .int .i64 d] w fun e w' => e = .returned (.int .i64 (fstL N1 L1 N2 L2 Z d)) ∧ Below w.heap.size w w' := by
  have hZl : Z.length = m := by have := hr3.1; omega
  have HR3 := Lib.hid hr3
  obtain ⟨da, dc, rfl⟩ := hr3.slice
  have HCP := Lib.hid hcap
  have hm1 : m ≤ 1100000 := by obtain ⟨_, _, _, h, _⟩ := hr3.opened; exact h
  clear hr3 hcap
  obtain ⟨ad1, cp1, rfl⟩ := hr1.slice
  obtain ⟨ad2, cp2, rfl⟩ := hr2.slice
  have HY0 := Lib.hid (Gy.start (N1 := N1) (N2 := N2) hr1 hr2 hh1 hh2)
  have HB0 := Lib.hid HY0.out.below
  clear hr1 hr2 hh1 hh2
  have HZ := Lib.hid hZl
  clear hZl
  go_enter Try.func28, Try.ntmps28
  go_wp2_with fail
  obtain ⟨v0, hv0⟩ : ∃ v0, v0 = ((w.alloc (.cells #[.int .i64 N1, .slice ad1 n1 cp1] 29)).alloc (.cells #[.int .i64 N2, .slice ad2 n2 cp2] 29)) := ⟨_, rfl⟩
  rw [← hv0] at HY0 HB0 ⊢
  have HR0 : Hid (Row 1 v0 lo3 hi3 (.slice da m dc) m Z) := HR3.out.below HB0.out hh3
  clear hv0 HR3
  go_at_call 56
  refine (up_any N1 N2 lo1 hi1 n1 lo2 hi2 n2 _ _ L1 L2 d v0 hL1 hL2 HY0.out.row1 HY0.out.row2 HY0.out.hi1 HY0.out.hi2).mono ?_
  rintro e v1 ⟨hb1, hcase⟩
  have HB1 : Hid (Below w.heap.size w v1) := HB0.out.trans (hb1.mono HB0.out.size)
  have hh0 : hi3 ≤ v0.heap.size := by have := HB0.out.size; omega
  have HR1 : Hid (Row 1 v1 lo3 hi3 (.slice da m dc) m Z) := HR0.out.below hb1 hh0
  have hs1 := hb1.size
  clear hb1 HR0
  rcases hcase with ⟨hf, rfl⟩ | ⟨hf, bv, av, rfl, hbr, har⟩
  · have HE : Hid (fstL N1 L1 N2 L2 Z d = -2) := fstL_no (fun h => by rw [hf] at h; exact Bool.false_ne_true h.1)
    clear hf
    go_wp2_with fail
    go_ret
    exact ⟨by rw [HE.out]; rfl, HB1.out.alloc HB1.out.size _⟩
  · have hG := (fineB_iff.1 hf).1
    have hN := gok_parts hG
    have HUF := Lib.hid (badK_uf N1 L1 L2 Z d)
    obtain ⟨M, hM⟩ : ∃ M, M = N1.toNat := ⟨_, rfl⟩
    have hM0 : 0 < M := by omega
    have hM1 : M ≤ 10 := by omega
    rw [← hM] at hbr har HUF
    have HF := Lib.hid hf
    obtain ⟨ba, bc, rfl⟩ := hbr.slice
    obtain ⟨aa, ac, rfl⟩ := har.slice
    have HBR := Lib.hid hbr
    have HAR := Lib.hid har
    clear hf hG hN hM hbr har
    by_cases hm : m ≤ 10
    · have hm3 : ¬ ((m : Int) > 10) := by omega
      have HE : Hid (fstL N1 L1 N2 L2 Z d = fstK (ufB (towK N1 L2 d M) (towK N1 L1 d M) Z d) (m + 1) (m + 1)) := by
        show _ = _
        rw [fstL_yes HF.out (by rw [HZ.out]; exact hm), HUF.out, HZ.out]
      go_wp2_with fail
      obtain ⟨v2, hv2⟩ : ∃ v2, v2 = v1.alloc (.cells #[.slice ba M bc, .slice aa M ac, .int .i64 d] 67) := ⟨_, rfl⟩
      have hb2 : Below v1.heap.size v1 v2 := by rw [hv2]; exact (Below.refl _ _).alloc (Nat.le_refl _) _
      rw [← hv2]
      have HB2 := Lib.hid hb2
      clear hv2 hb2
      go_at_call 66
      refine (ufl_any M _ _ _ _ lo3 hi3 m _ _ _ (towK N1 L1 d M) (towK N1 L2 d M) Z d v2 hM0 hM1 hm HCP.out (HBR.out.below HB2.out (Nat.le_refl _)) (HAR.out.below HB2.out (Nat.le_refl _)) (HR1.out.below HB2.out (by omega)) HB2.out.size HB2.out.size (by have := HB2.out.size; omega)).mono ?_
      rintro e v3 ⟨rfl, hb3⟩
      have HB3 := Lib.hid hb3
      clear hb3
      generalize hR : fstK (ufB (towK N1 L2 d M) (towK N1 L1 d M) Z d) (m + 1) (m + 1) = R at HE ⊢
      clear hR
      go_wp2_with fail
      go_ret
      exact ⟨by rw [HE.out]; rfl, (HB1.out.trans (HB2.out.mono HB1.out.size)).trans (HB3.out.mono (by have := HB1.out.size; have := HB2.out.size; omega))⟩
    · have hm3 : (m : Int) > 10 := by omega
      have hm4 : decide ((m : Int) > 10) = true := decide_eq_true hm3
      have HE : Hid (fstL N1 L1 N2 L2 Z d = -2) := fstL_no (fun h => hm (by have := h.2; rw [HZ.out] at this; exact this))
      clear hm
      go_wp2_with fail
      go_ret
      exact ⟨by rw [HE.out]; rfl, HB1.out.alloc HB1.out.size _⟩

theorem badK_dec {N1 N2 d : Int} {L1 L2 : List Ed} {Z : List Int} {k : Nat} {t : Bool} (hf : fineB N1 L1 N2 L2 d = true) (hk : (Z.take k).length ≤ 300) (h : badK N1 L1 L2 Z d k = t) : decide (0 < (loopsL (mixL N1 L1 N2 L2 (Z.take k) d) d).length) = t := by
  rw [empty_dec, ← h]
  unfold mixL badK
  rw [if_pos ⟨hf, hk⟩]

set_option maxRecDepth 100000 in
set_option maxHeartbeats 4000000 in
theorem sfst_any (N1 N2 : Int) (lo1 hi1 n1 lo2 hi2 n2 : Nat) (s1 s2 : Value) (L1 L2 : List Ed) (s3 : Value) (lo3 hi3 m : Nat) (Z : List Int) (d : Int) (w : World) (hL1 : L1.length = n1) (hL2 : L2.length = n2) (hr1 : Row 3 w lo1 hi1 s1 n1 (flat L1)) (hr2 : Row 3 w lo2 hi2 s2 n2 (flat L2)) (hh1 : hi1 ≤ w.heap.size) (hh2 : hi2 ≤ w.heap.size) (hcap : capOk s3 m) (hr3 : Row 1 w lo3 hi3 s3 m Z) (hh3 : hi3 ≤ w.heap.size) :
    Calls Try.prog 27 #[.agg #[.int .i64 N1, s1], .agg #[.int .i64 N2, s2], s3, .int .i64 d] w fun e w' => e = .returned (.int .i64 (fstL N1 L1 N2 L2 Z d)) ∧ Below w.heap.size w w' := by
  have hZl : Z.length = m := by have := hr3.1; omega
  have HR3 := Lib.hid hr3
  obtain ⟨da, dc, rfl⟩ := hr3.slice
  have hnc := hcap.le.1
  have hm1 : m ≤ 1100000 := by obtain ⟨_, _, _, h, _⟩ := hr3.opened; exact h
  clear hr3 hcap
  obtain ⟨ad1, cp1, rfl⟩ := hr1.slice
  obtain ⟨ad2, cp2, rfl⟩ := hr2.slice
  have HY0 := Lib.hid (Gy.start (N1 := N1) (N2 := N2) hr1 hr2 hh1 hh2)
  have HB0 := Lib.hid HY0.out.below
  clear hr1 hr2 hh1 hh2
  have HZ := Lib.hid hZl
  obtain ⟨R, hR⟩ : ∃ R, R = fstL N1 L1 N2 L2 Z d := ⟨_, rfl⟩
  rw [← hR]
  have HR := Lib.hid hR
  clear hZl hR
  go_enter Try.func27, Try.ntmps27
  go_wp2_with fail
  obtain ⟨v0, hv0⟩ : ∃ v0, v0 = ((w.alloc (.cells #[.int .i64 N1, .slice ad1 n1 cp1] 29)).alloc (.cells #[.int .i64 N2, .slice ad2 n2 cp2] 29)) := ⟨_, rfl⟩
  rw [← hv0] at HY0 HB0 ⊢
  have HR0 : Hid (Row 1 v0 lo3 hi3 (.slice da m dc) m Z) := HR3.out.below HB0.out hh3
  have hh0 : hi3 ≤ v0.heap.size := by have := HB0.out.size; omega
  have a0 := HY0.out.a0
  have a1 := HY0.out.a1
  have b0 := HY0.out.b0
  have b1 := HY0.out.b1
  clear hv0 HR3
  go_at_call 54
  refine (fine_any N1 N2 lo1 hi1 n1 lo2 hi2 n2 _ _ L1 L2 d v0 hL1 hL2 HY0.out.row1 HY0.out.row2 HY0.out.hi1 HY0.out.hi2).mono ?_
  rintro e v1 ⟨rfl, hb1⟩
  have HB1 := Lib.hid hb1
  clear hb1 a0 a1 b0 b1
  cases hf : fineB N1 L1 N2 L2 d with
  | false =>
    have HE : Hid (R = -2) := HR.out.trans (fstL_no (fun h => by rw [hf] at h; exact Bool.false_ne_true h.1))
    clear hf
    go_wp2_with fail
    go_ret
    exact ⟨by rw [HE.out]; rfl, HB0.out.trans (HB1.out.mono HB0.out.size)⟩
  | true =>
    have HF := Lib.hid hf
    clear hf
    by_cases hm : m ≤ 10
    · have hm3 : ¬ ((m : Int) > 10) := by omega
      have HFk : Hid (fstK (badK N1 L1 L2 Z d) (m + 1) (m + 1 - 0) = R) := by show _ = _; rw [HR.out, fstL_yes HF.out (by rw [HZ.out]; exact hm), HZ.out]; rfl
      go_wp2_with fail
      go_loopw [9] (fun i wr => ∃ k : Nat, k ≤ m + 1 ∧ i = .int .i64 (k : Int) ∧ Hid (Below v0.heap.size v0 wr) ∧ Hid (fstK (badK N1 L1 L2 Z d) (m + 1) (m + 1 - k) = R)) (fun i _ => m + 1 - (intOf i).toNat)
      case atStart => exact ⟨0, Nat.zero_le _, rfl, HB1, HFk⟩
      case round =>
        clear HFk HB1
        obtain ⟨k, hk', rfl, hB, hFk⟩ := hrel
        have HYr := Lib.hid (HY0.out.grow hB.out)
        have a0 := HYr.out.a0
        have a1 := HYr.out.a1
        have b0 := HYr.out.b0
        have b1 := HYr.out.b1
        clear HYr
        by_cases hlt : k < m + 1
        · have hk : k ≤ m := by omega
          have q0 : (k : Int) ≤ (m : Int) := by omega
          have q1 : (0 : Int) ≤ (k : Int) := by omega
          have q2 : k ≤ dc := by omega
          have q3 : (k : Int) ≤ (dc : Int) := by omega
          have hk3 : (Z.take k).length ≤ 300 := by rw [List.length_take]; omega
          go_wp2_with fail
          refine wp_region_held_drew (S := (fun w' => w'.cell? ⟨w.heap.size, 0, none⟩ = some (.int .i64 N1) ∧ w'.cell? ⟨w.heap.size, 1, none⟩ = some (.slice ad1 n1 cp1) ∧ w'.cell? ⟨w.heap.size + 1, 0, none⟩ = some (.int .i64 N2) ∧ w'.cell? ⟨w.heap.size + 1, 1, none⟩ = some (.slice ad2 n2 cp2) ∧ Hid (Below v0.heap.size v0 w'))) (by kernel_rfl) ?_ (fun hHeld => ?_)
          · exact ⟨a0, a1, b0, b1, Lib.hid hB.out.drew⟩
          refine step_read 0 26 rfl rfl (by kernel_rfl) (by kernel_rfl) (by kernel_rfl) (fun _ _ _ h => h) (by rfl) (v := ?_) (fun w hSw => ?_) (by assumption) ?_; rotate_left; (focus ((try dsimp only at hSw); go_simp; first | done | exact rfl)); simp only [List.set]
          refine step_read 1 27 rfl rfl (by kernel_rfl) (by kernel_rfl) (by kernel_rfl) (fun _ _ _ h => h) (by rfl) (v := ?_) (fun w hSw => ?_) (by assumption) ?_; rotate_left; (focus ((try dsimp only at hSw); go_simp; first | done | exact rfl)); simp only [List.set]
          refine step_read 2 28 rfl rfl (by kernel_rfl) (by kernel_rfl) (by kernel_rfl) (fun _ _ _ h => h) (by rfl) (v := ?_) (fun w hSw => ?_) (by assumption) ?_; rotate_left; (focus ((try dsimp only at hSw); go_simp; first | done | exact rfl)); simp only [List.set]
          refine step_read 3 29 rfl rfl (by kernel_rfl) (by kernel_rfl) (by kernel_rfl) (fun _ _ _ h => h) (by rfl) (v := ?_) (fun w hSw => ?_) (by assumption) ?_; rotate_left; (focus ((try dsimp only at hSw); go_simp; first | done | exact rfl)); simp only [List.set]
          refine step_read 4 30 rfl rfl (by kernel_rfl) (by kernel_rfl) (by kernel_rfl) (fun _ _ _ h => h) (by rfl) (v := ?_) (fun w hSw => ?_) (by assumption) ?_; rotate_left; (focus ((try dsimp only at hSw); go_simp; first | done | exact rfl)); simp only [List.set]
          refine step_read 5 31 rfl rfl (by kernel_rfl) (by kernel_rfl) (by kernel_rfl) (fun _ _ _ h => h) (by rfl) (v := ?_) (fun w hSw => ?_) (by assumption) ?_; rotate_left; (focus ((try dsimp only at hSw); go_simp; first | done | exact rfl)); simp only [List.set]
          refine step_read 7 33 rfl rfl (by kernel_rfl) (by kernel_rfl) (by kernel_rfl) (fun _ _ _ h => h) (by rfl) (v := ?_) (fun w hSw => ?_) (by assumption) ?_; rotate_left; (focus ((try dsimp only at hSw); go_simp; first | done | exact rfl)); simp only [List.set]
          refine wpAnyH_ready (rs := [6]) (by kernel_rfl) (by simp) ?_
          refine AllReadyH.cons rfl (fun Kc hK => ?_) (AllReadyH.nil)
          go_simp
          go_at_call 16
          have HYh := Lib.hid (HY0.out.grow hHeld.2.2.2.2.out)
          have hszh := hHeld.2.2.2.2.out.size
          refine (smix_any N1 N2 lo1 hi1 n1 lo2 hi2 n2 _ _ L1 L2 _ lo3 hi3 k (Z.take k) d _ hL1 hL2 HYh.out.row1 HYh.out.row2 HYh.out.hi1 HYh.out.hi2 ((HR0.out.below hHeld.2.2.2.2.out hh0).take hk) (by omega)).mono ?_
          rintro e u1 ⟨rv, rfl, hmr, hb1⟩
          obtain ⟨ra, rc, hrv⟩ := hmr.slice
          subst hrv
          have HMR := Lib.hid hmr
          have HBu : Hid (Below v0.heap.size v0 u1) := hHeld.2.2.2.2.out.trans (hb1.mono hHeld.2.2.2.2.out.size)
          have HYu := Lib.hid (HY0.out.grow HBu.out)
          clear hHeld hmr hb1 HYh
          refine hK.out _ _ ?_ (fun hHeld => ?_)
          · exact ⟨HYu.out.a0, HYu.out.a1, HYu.out.b0, HYu.out.b1, HBu⟩
          clear hK Kc
          refine wpAnyH_ready (rs := [8]) (by kernel_rfl) (by simp) ?_
          refine AllReadyH.cons rfl (fun Kc hK => ?_) (AllReadyH.nil)
          go_simp
          go_at_call 23
          refine (sloops_any _ _ _ _ _ d _ HMR.out (Nat.le_refl _)).mono ?_
          rintro e u2 ⟨lv, rfl, hlr, hb2⟩
          obtain ⟨la, lc, hlv⟩ := hlr.slice
          subst hlv
          have HBu2 : Hid (Below v0.heap.size v0 u2) := HBu.out.trans (hb2.mono HBu.out.size)
          have HYu2 := Lib.hid (HY0.out.grow HBu2.out)
          clear hHeld hlr hb2
          refine hK.out _ _ ?_ (fun hHeld => ?_)
          · exact ⟨HYu2.out.a0, HYu2.out.a1, HYu2.out.b0, HYu2.out.b1, HBu2⟩
          clear hK Kc
          refine step_read 9 35 rfl rfl (by kernel_rfl) (by kernel_rfl) (by kernel_rfl) (fun _ _ _ h => h) (by rfl) (v := ?_) (fun w hSw => ?_) (by assumption) ?_; rotate_left; (focus ((try dsimp only at hSw); go_simp; first | done | exact rfl)); simp only [List.set]
          refine step_read 10 36 rfl rfl (by kernel_rfl) (by kernel_rfl) (by kernel_rfl) (fun _ _ _ h => h) (by rfl) (v := ?_) (fun w hSw => ?_) (by assumption) ?_; rotate_left; (focus ((try dsimp only at hSw); go_simp; first | done | exact rfl)); simp only [List.set]
          refine wpAnyH_done (by kernel_rfl) ?_ _
          clear hHeld
          cases hb : badK N1 L1 L2 Z d k with
          | true =>
            have hdl := badK_dec HF.out hk3 hb
            have hV := Lib.hid (fst_found hk hFk.out hb)
            rw [hdl]
            clear hb hdl HMR HYu HYu2
            go_wp2_with fail
            go_ret
            exact ⟨by rw [hV.out]; rfl, HB0.out.trans (HBu2.out.mono HB0.out.size)⟩
          | false =>
            have hdl := badK_dec HF.out hk3 hb
            have HF2 := Lib.hid (fst_next hk hFk.out hb)
            rw [hdl]
            clear hb hdl HMR HYu HYu2 hFk hB
            go_wp2_with fail
            go_roundw
            case rel => exact ⟨k + 1, by omega, by go_num, HBu2, HF2⟩
            case measure => simp [intOf]; omega
        · obtain rfl : k = m + 1 := by omega
          have hge : ¬ (((m + 1 : Nat) : Int) ≤ (m : Int)) := by omega
          have hV : Hid (R = -1) := by
            have := hFk.out
            rw [Nat.sub_self] at this
            exact this.symm
          go_wp2_with fail
          go_ret
          exact ⟨by rw [hV.out]; rfl, HB0.out.trans (hB.out.mono HB0.out.size)⟩
    · have hm3 : (m : Int) > 10 := by omega
      have hm4 : decide ((m : Int) > 10) = true := decide_eq_true hm3
      have HE : Hid (R = -2) := HR.out.trans (fstL_no (fun h => hm (by have := h.2; rw [HZ.out] at this; exact this)))
      clear hm
      go_wp2_with fail
      go_ret
      exact ⟨by rw [HE.out]; rfl, HB0.out.trans (HB1.out.mono HB0.out.size)⟩

end Go.Proofs.Ytjenjdhoblcohaa
