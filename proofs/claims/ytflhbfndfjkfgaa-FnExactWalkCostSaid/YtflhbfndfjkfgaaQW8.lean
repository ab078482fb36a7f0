/- WayCost of the model as a contract. -/
import Derived.Test.YtflhbfndfjkfgaaQW7
namespace Go.Proofs.Ytflhbfndfjkfgaa
open Go.RowKit


def wat (W : List Int) (i : Nat) : Int := W.getD i 0
theorem wat_at {W : List Int} {i : Nat} {z : Int} (h : W[i]? = some z) : wat W i = z := by unfold wat; rw [List.getD_eq_getElem?_getD, h]; rfl
/-- Whether node i of the way is one, and stands behind the one before it. -/
def stepB (N : Int) (L : List Ed) (W : List Int) (i : Nat) : Bool := ndB N (wat W i) && (i == 0 || !(cst L (wat W (i - 1)) (wat W i) == 1000000))
/-- What the way's first k nodes cost. -/
def wsum (L : List Ed) (W : List Int) : Nat → Int
  | 0 => 0
  | 1 => 0
  | k + 2 => wsum L W (k + 1) + cst L (wat W k) (wat W (k + 1))
def wcM (N : Int) (L : List Ed) (W : List Int) : Int := if gok N L = true ∧ 0 < W.length ∧ W.length ≤ 300 ∧ ∀ i, i < W.length → stepB N L W i = true then wsum L W W.length else -1
theorem wcM_g {N : Int} {L : List Ed} {W : List Int} (h : gok N L = false) : wcM N L W = -1 := by unfold wcM; rw [if_neg (fun hh => by rw [h] at hh; exact absurd hh.1 (by decide))]
theorem wcM_0 {N : Int} {L : List Ed} {W : List Int} (h : W.length = 0) : wcM N L W = -1 := by unfold wcM; rw [if_neg (fun hh => by omega)]
theorem wcM_big {N : Int} {L : List Ed} {W : List Int} (h : 300 < W.length) : wcM N L W = -1 := by unfold wcM; rw [if_neg (fun hh => by omega)]
theorem wcM_no {N : Int} {L : List Ed} {W : List Int} {i : Nat} (h : i < W.length) (hs : stepB N L W i = false) : wcM N L W = -1 := by
  unfold wcM; rw [if_neg (fun hh => by have := hh.2.2.2 i h; rw [hs] at this; exact absurd this (by decide))]
theorem wcM_yes {N : Int} {L : List Ed} {W : List Int} (hG : gok N L = true) (h0 : 0 < W.length) (h1 : W.length ≤ 300) (hs : ∀ i, i < W.length → stepB N L W i = true) : wcM N L W = wsum L W W.length := by
  unfold wcM; rw [if_pos ⟨hG, h0, h1, hs⟩]
theorem wsum_in {N : Int} {L : List Ed} (hG : gok N L = true) (W : List Int) : ∀ k, 0 ≤ wsum L W k ∧ wsum L W k ≤ 1000000 * k
  | 0 => by simp [wsum]
  | 1 => by simp [wsum]
  | k + 2 => by
    have h1 := wsum_in hG W (k + 1)
    have h2 := cst_bound hG (wat W k) (wat W (k + 1))
    unfold wsum
    push_cast at *
    omega
theorem nd_in {N x : Int} (h : ndB N x = true) (hN : N ≤ 10) : 0 ≤ x ∧ x < 10 := by unfold ndB at h; rw [inB_iff] at h; omega
theorem below_dN {B : Nat} {a w : World} (h : Below B a w) (n : Nat) : Below B a (w.drewN n) := h.trans ⟨rfl, rfl, rfl, Nat.le_refl _, fun _ _ => rfl⟩
/-- The graph's box at the head of a function's memory, and what lies below. -/
def GB (w wr : World) (N : Int) (v : Value) : Prop := wr.cell? ⟨w.heap.size, 0, none⟩ = some (.int .i64 N) ∧ wr.cell? ⟨w.heap.size, 1, none⟩ = some v ∧ w.heap.size < wr.heap.size ∧ Below w.heap.size w wr

set_option maxHeartbeats 2000000 in
theorem swc_g (N : Int) (lo hi n : Nat) (v : Value) (L : List Ed) (nw : Nat) (aw : Option Addr) (cw : Nat) (w : World) (hL : L.length = n) (hr : Row 3 w lo hi v n (flat L)) (hh : hi ≤ w.heap.size) (hG : gok N L = false) :
    Calls Try.prog 38 #[.agg #[.int .i64 N, v], .slice aw nw cw] w fun e w' => e = .returned (.int .i64 (-1)) ∧ Below w.heap.size w w' := by
  have HR := Lib.hid hr
  obtain ⟨ad, cp, rfl⟩ := hr.slice
  clear hr
  go_enter Try.func38, Try.ntmps38
  go_wp2_with fail
  go_at_call 55
  refine (sgok_any N lo hi n _ L _ hL (HR.out.below (B := w.heap.size) (by go_grown) (by omega)) (by simp; omega)).mono ?_
  rw [hG]
  rintro e v1 ⟨rfl, hb1⟩
  have sz1 : w.heap.size + 1 ≤ v1.heap.size := by have hh := hb1.size; simp at hh; omega
  have st1 : Below w.heap.size w v1 := Below.trans (by go_grown) (hb1.mono (by simp))
  have c1_0 : v1.cell? ⟨w.heap.size, 0, none⟩ = some (.int .i64 N) := by rw [(bcell hb1).1 _ _ (by simp)]; simp
  have c1_1 : v1.cell? ⟨w.heap.size, 1, none⟩ = some (.slice ad n cp) := by rw [(bcell hb1).1 _ _ (by simp)]; simp
  have B1 : Hid (Below w.heap.size w v1) := st1
  have R1_0 : Hid (Row 3 v1 (lo) (hi) (.slice ad n cp) n (flat L)) := HR.out.below st1 (by omega)
  have d1_0 : w.heap.size < v1.heap.size := by omega
  have e1_0 : w.heap.size ≠ v1.heap.size := by omega
  clear st1 HR hb1
  go_wp2_with fail
  go_ret
  exact ⟨rfl, B1.out⟩

set_option maxHeartbeats 2000000 in
theorem swc_0 (N : Int) (lo hi n : Nat) (v : Value) (L : List Ed) (nw : Nat) (aw : Option Addr) (cw : Nat) (w : World) (hL : L.length = n) (hr : Row 3 w lo hi v n (flat L)) (hh : hi ≤ w.heap.size) (hG : gok N L = true) (h0 : nw = 0) :
    Calls Try.prog 38 #[.agg #[.int .i64 N, v], .slice aw nw cw] w fun e w' => e = .returned (.int .i64 (-1)) ∧ Below w.heap.size w w' := by
  have HR := Lib.hid hr
  obtain ⟨ad, cp, rfl⟩ := hr.slice
  clear hr
  subst h0
  go_enter Try.func38, Try.ntmps38
  go_wp2_with fail
  go_at_call 55
  refine (sgok_any N lo hi n _ L _ hL (HR.out.below (B := w.heap.size) (by go_grown) (by omega)) (by simp; omega)).mono ?_
  rw [hG]
  rintro e v1 ⟨rfl, hb1⟩
  have sz1 : w.heap.size + 1 ≤ v1.heap.size := by have hh := hb1.size; simp at hh; omega
  have st1 : Below w.heap.size w v1 := Below.trans (by go_grown) (hb1.mono (by simp))
  have c1_0 : v1.cell? ⟨w.heap.size, 0, none⟩ = some (.int .i64 N) := by rw [(bcell hb1).1 _ _ (by simp)]; simp
  have c1_1 : v1.cell? ⟨w.heap.size, 1, none⟩ = some (.slice ad n cp) := by rw [(bcell hb1).1 _ _ (by simp)]; simp
  have B1 : Hid (Below w.heap.size w v1) := st1
  have R1_0 : Hid (Row 3 v1 (lo) (hi) (.slice ad n cp) n (flat L)) := HR.out.below st1 (by omega)
  have d1_0 : w.heap.size < v1.heap.size := by omega
  have e1_0 : w.heap.size ≠ v1.heap.size := by omega
  clear st1 HR hb1
  go_wp2_with fail
  go_ret
  exact ⟨rfl, B1.out⟩

set_option maxHeartbeats 2000000 in
theorem swc_big (N : Int) (lo hi n : Nat) (v : Value) (L : List Ed) (nw : Nat) (aw : Option Addr) (cw : Nat) (w : World) (hL : L.length = n) (hr : Row 3 w lo hi v n (flat L)) (hh : hi ≤ w.heap.size) (hG : gok N L = true) (h0 : 300 < nw) (h1 : nw ≤ 1100000) :
    Calls Try.prog 38 #[.agg #[.int .i64 N, v], .slice aw nw cw] w fun e w' => e = .returned (.int .i64 (-1)) ∧ Below w.heap.size w w' := by
  have HR := Lib.hid hr
  obtain ⟨ad, cp, rfl⟩ := hr.slice
  clear hr
  have h2 : (300 : Int) < (nw : Int) := by omega
  have h3 : ((nw : Int) == 0) = false := by simp; omega
  go_enter Try.func38, Try.ntmps38
  go_wp2_with fail
  go_at_call 55
  refine (sgok_any N lo hi n _ L _ hL (HR.out.below (B := w.heap.size) (by go_grown) (by omega)) (by simp; omega)).mono ?_
  rw [hG]
  rintro e v1 ⟨rfl, hb1⟩
  have sz1 : w.heap.size + 1 ≤ v1.heap.size := by have hh := hb1.size; simp at hh; omega
  have st1 : Below w.heap.size w v1 := Below.trans (by go_grown) (hb1.mono (by simp))
  have c1_0 : v1.cell? ⟨w.heap.size, 0, none⟩ = some (.int .i64 N) := by rw [(bcell hb1).1 _ _ (by simp)]; simp
  have c1_1 : v1.cell? ⟨w.heap.size, 1, none⟩ = some (.slice ad n cp) := by rw [(bcell hb1).1 _ _ (by simp)]; simp
  have B1 : Hid (Below w.heap.size w v1) := st1
  have R1_0 : Hid (Row 3 v1 (lo) (hi) (.slice ad n cp) n (flat L)) := HR.out.below st1 (by omega)
  have d1_0 : w.heap.size < v1.heap.size := by omega
  have e1_0 : w.heap.size ≠ v1.heap.size := by omega
  clear st1 HR hb1
  go_wp2_with fail
  go_ret
  exact ⟨rfl, B1.out⟩

set_option maxRecDepth 100000 in
set_option maxHeartbeats 4000000 in
theorem swc_some (N : Int) (lo hi n : Nat) (v : Value) (L : List Ed) (nw : Nat) (aw : Option Addr) (cw : Nat) (W : List Int) (w : World) (hL : L.length = n) (hr : Row 3 w lo hi v n (flat L)) (hh : hi ≤ w.heap.size) (hW : W.length = nw) (hG : gok N L = true) (h0 : 0 < nw) (h1 : nw ≤ 300) (hcw : 0 < nw → ∃ g, aw = some ⟨g, 0, none⟩ ∧ g < w.heap.size ∧ ∀ q z, W[q]? = some z → w.cell? ⟨g, q, none⟩ = some (.int .i64 z)) :
    Calls Try.prog 38 #[.agg #[.int .i64 N, v], .slice aw nw cw] w fun e w' => e = .returned (.int .i64 (wcM N L W)) ∧ Below w.heap.size w w' := by
  have HR := Lib.hid hr
  obtain ⟨ad, cp, rfl⟩ := hr.slice
  clear hr
  have hN1 := (gok_parts hG).1
  have hN2 := (gok_parts hG).2.1
  have HG := Lib.hid hG
  have HR0 := HR
  have HW := Lib.hid hW
  have t0 : ((nw : Int) == 0) = false := by simp; omega
  have t1 : decide ((300 : Int) < (nw : Int)) = false := decide_eq_false (by omega)
  have t2 : decide (300 < nw) = false := decide_eq_false (by omega)
  obtain ⟨gw, rfl, hgw, hcw⟩ := hcw h0
  have HC := Lib.hid hcw
  clear hcw hW
  go_enter Try.func38, Try.ntmps38
  go_wp2_with fail
  go_at_call 55
  refine (sgok_any N lo hi n _ L _ hL (HR.out.below (B := w.heap.size) (by go_grown) (by omega)) (by simp; omega)).mono ?_
  rw [hG]
  rintro e v1 ⟨rfl, hb1⟩
  have sz1 : w.heap.size + 1 ≤ v1.heap.size := by have hh := hb1.size; simp at hh; omega
  have st1 : Below w.heap.size w v1 := Below.trans (by go_grown) (hb1.mono (by simp))
  have c1_0 : v1.cell? ⟨w.heap.size, 0, none⟩ = some (.int .i64 N) := by rw [(bcell hb1).1 _ _ (by simp)]; simp
  have c1_1 : v1.cell? ⟨w.heap.size, 1, none⟩ = some (.slice ad n cp) := by rw [(bcell hb1).1 _ _ (by simp)]; simp
  have B1 : Hid (Below w.heap.size w v1) := st1
  have R1_0 : Hid (Row 3 v1 (lo) (hi) (.slice ad n cp) n (flat L)) := HR.out.below st1 (by omega)
  have d1_0 : w.heap.size < v1.heap.size := by omega
  have e1_0 : w.heap.size ≠ v1.heap.size := by omega
  clear st1 HR hb1
  go_wp2
  go_loopw [5, 6] (fun s i wr => ∃ k : Nat, k ≤ nw ∧ i = .int .i64 (k : Int) ∧ s = .int .i64 (wsum L W k) ∧ Hid (∀ j, j < k → stepB N L W j = true) ∧ Hid (GB w wr N (.slice ad n cp))) (fun _ i _ => nw - (intOf i).toNat)
  case atStart => exact ⟨0, Nat.zero_le _, rfl, rfl, fun j hj => absurd hj (Nat.not_lt_zero _), c1_0, c1_1, d1_0, B1.out⟩
  case round =>
    obtain ⟨k, hk, rfl, rfl, hS, hG⟩ := hrel
    have k0 := hG.out.1
    have k1 := hG.out.2.1
    have hsz := hG.out.2.2.1
    have HBw : Hid (Below w.heap.size w wr) := hG.out.2.2.2
    clear hG
    by_cases hlt : k < nw
    · obtain ⟨x, hx⟩ : ∃ x, W[k]? = some x := ⟨W[k]'(by rw [HW.out]; exact hlt), List.getElem?_eq_getElem _⟩
      have z0 : wr.cell? ⟨gw, k, none⟩ = some (.int .i64 x) := by rw [HBw.out.cell (p := ⟨gw, k, none⟩) hgw]; exact HC.out _ _ hx
      have HX : Hid (wat W k = x) := wat_at hx
      have hgr : gw < wr.heap.size := by omega
      have q0 : (0 : Int) ≤ (k : Int) := by omega
      have q1 : (k : Int) < (nw : Int) := by omega
      have hkk : wr.cell? ⟨w.heap.size, 0, none⟩ = some (.int .i64 N) ∧ wr.cell? ⟨w.heap.size, 1, none⟩ = some (.slice ad n cp) ∧ wr.cell? ⟨gw, k, none⟩ = some (.int .i64 x) ∧ w.heap.size < wr.heap.size ∧ Below w.heap.size w wr := ⟨k0, k1, z0, hsz, HBw.out⟩
      clear hx
      by_cases h1 : ndB N x = true
      · go_wp2_with fail
        go_region_held3 (fun w' => w'.cell? ⟨w.heap.size, 0, none⟩ = some (.int .i64 N) ∧ w'.cell? ⟨w.heap.size, 1, none⟩ = some (.slice ad n cp) ∧ w'.cell? ⟨gw, k, none⟩ = some (.int .i64 x) ∧ w.heap.size < w'.heap.size ∧ Below w.heap.size w w') (first | assumption | exact rk3_drew hkk | exact rk3_drew (by assumption) | exact rk3_keep (by omega) (by omega) (by omega) (by omega) (by assumption) (by assumption))
          (first | (go_at_call 56; refine (node_any N _ _ _ x _ hN1 hN2).mono ?_; rw [h1]; rintro e w2 ⟨rfl, hb⟩))
        have hE : w2.cell? ⟨w.heap.size, 0, none⟩ = some (.int .i64 N) ∧ w2.cell? ⟨w.heap.size, 1, none⟩ = some (.slice ad n cp) ∧ w2.cell? ⟨gw, k, none⟩ = some (.int .i64 x) ∧ w.heap.size < w2.heap.size ∧ Below w.heap.size w w2 := by assumption
        by_cases hk0 : k = 0
        · have HS : Hid (∀ j, j < k + 1 → stepB N L W j = true) := fun j hj => by
            obtain rfl : j = k := by omega
            unfold stepB; rw [HX.out, h1, hk0]; rfl
          have HV : Hid (wsum L W (k + 1) = wsum L W k) := by show _ = _; rw [hk0]; rfl
          have d0 : decide (0 < k) = false := by rw [hk0]; decide
          have Hk0 := Lib.hid hk0
          have HE : Hid (GB w w2 N (.slice ad n cp)) := ⟨hE.1, hE.2.1, hE.2.2.2⟩
          clear hk0 hkk
          go_wp2_with fail
          go_roundw
          case rel => exact ⟨k + 1, by omega, by go_num, by rw [HV.out], HS, HE⟩
          case measure => simp [intOf]; omega
        · obtain ⟨m, hm⟩ : ∃ m, k = m + 1 := ⟨k - 1, by omega⟩
          obtain ⟨y, hy⟩ : ∃ y, W[m]? = some y := ⟨W[m]'(by rw [HW.out]; omega), List.getElem?_eq_getElem _⟩
          have z1 : w2.cell? ⟨gw, m, none⟩ = some (.int .i64 y) := by rw [hE.2.2.2.2.cell (p := ⟨gw, m, none⟩) hgw]; exact HC.out _ _ hy
          have HY : Hid (wat W m = y) := wat_at hy
          have h3 : ndB N y = true := by
            have := hS.out m (by omega)
            unfold stepB at this
            rw [Bool.and_eq_true, HY.out] at this
            exact this.1
          have dk : decide (0 < k) = true := decide_eq_true (by omega)
          have dk1 : 0 < k := by omega
          have e1 : IntKind.i64.wrap ((k : Int) - 1) = (m : Int) := by rw [IntWalk.i64_in _ (by omega)]; omega
          have q2 : (0 : Int) ≤ (m : Int) := by omega
          have q3 : (m : Int) < (nw : Int) := by omega
          have Hm := Lib.hid hm
          have hkk2 : w2.cell? ⟨w.heap.size, 0, none⟩ = some (.int .i64 N) ∧ w2.cell? ⟨w.heap.size, 1, none⟩ = some (.slice ad n cp) ∧ w2.cell? ⟨gw, k, none⟩ = some (.int .i64 x) ∧ w2.cell? ⟨gw, m, none⟩ = some (.int .i64 y) ∧ w.heap.size < w2.heap.size ∧ Below w.heap.size w w2 := ⟨hE.1, hE.2.1, hE.2.2.1, z1, hE.2.2.2⟩
          have j0 := hE.1
          have j1 := hE.2.1
          have j2 := hE.2.2.1
          have j3 := hE.2.2.2.1
          have Hstep : Hid (stepB N L W k = !(cst L y x == 1000000)) := by
            show stepB N L W k = _
            unfold stepB
            rw [Hm.out, show m + 1 - 1 = m by omega, HY.out, ← Hm.out, HX.out, h1]
            have : (k == 0) = false := by simp; omega
            rw [this]; rfl
          have Hadd : Hid (wsum L W (k + 1) = wsum L W k + cst L y x) := by
            show wsum L W (k + 1) = _
            rw [Hm.out]
            show wsum L W (m + 1) + cst L (wat W m) (wat W (m + 1)) = _
            rw [← Hm.out, HX.out, HY.out]
          clear hm hk0 hy hE hkk
          go_wp2_with fail
          go_region_held3 (fun w' => w'.cell? ⟨w.heap.size, 0, none⟩ = some (.int .i64 N) ∧ w'.cell? ⟨w.heap.size, 1, none⟩ = some (.slice ad n cp) ∧ w'.cell? ⟨gw, k, none⟩ = some (.int .i64 x) ∧ w'.cell? ⟨gw, m, none⟩ = some (.int .i64 y) ∧ w.heap.size < w'.heap.size ∧ Below w.heap.size w w') (first | assumption | exact rk4_drew hkk2 | exact rk4_drew (by assumption) | exact rk4_keep (by omega) (by omega) (by omega) (by omega) (by omega) (by assumption) (by assumption))
            (first | (go_at_call 57; refine (scost_any N lo hi n _ L y x _ HG.out hL (HR0.out.below (rk4_out (by assumption)).2 hh) (by have hq := (rk4_out (by assumption)).1; omega)).mono ?_; rintro e w3 ⟨rfl, hb⟩))
          have hE : w3.cell? ⟨w.heap.size, 0, none⟩ = some (.int .i64 N) ∧ w3.cell? ⟨w.heap.size, 1, none⟩ = some (.slice ad n cp) ∧ w3.cell? ⟨gw, k, none⟩ = some (.int .i64 x) ∧ w3.cell? ⟨gw, m, none⟩ = some (.int .i64 y) ∧ w.heap.size < w3.heap.size ∧ Below w.heap.size w w3 := by assumption
          have i2 := hE.2.2.1
          have i3 := hE.2.2.2.1
          have HE : Hid (GB w w3 N (.slice ad n cp)) := ⟨hE.1, hE.2.1, hE.2.2.2.2⟩
          clear hkk2 hE
          by_cases hxy : x = y
          · have Hno : Hid (wcM N L W = -1) := wcM_no (i := k) (by rw [HW.out]; exact hlt) (by rw [Hstep.out, hxy, cst_self HG.out y]; rfl)
            have hxe : (x == y) = true := by simp [hxy]
            clear hxy
            go_wp2_with fail
            go_quiet (fail)
            go_wp2_with fail
            go_ret
            exact ⟨by rw [Hno.out]; rfl, below_dN HE.out.2.2.2 _⟩
          · have hxe : (x == y) = false := by simp [hxy]
            have hsc : Hid (scost N L y x = cst L y x) := by show scost N L y x = _; unfold scost; rw [if_pos ⟨h3, h1⟩, if_neg (fun hh => hxy hh.symm)]
            rw [hsc.out]
            clear hxy
            by_cases hF : cst L y x = 1000000
            · have Hno : Hid (wcM N L W = -1) := wcM_no (i := k) (by rw [HW.out]; exact hlt) (by rw [Hstep.out, hF]; rfl)
              have hFe : (cst L y x == 1000000) = true := by simp [hF]
              clear hF
              go_wp2_with fail
              go_quiet (fail)
              go_wp2_with fail
              go_ret
              exact ⟨by rw [Hno.out]; rfl, below_dN HE.out.2.2.2 _⟩
            · have hFe : (cst L y x == 1000000) = false := by simp [hF]
              have HS : Hid (∀ j, j < k + 1 → stepB N L W j = true) := fun j hj => by
                by_cases ej : j = k
                · subst ej; rw [Hstep.out, hFe]; rfl
                · exact hS.out j (by omega)
              have b1 := wsum_in HG.out W k
              have b2 := cst_bound HG.out y x
              have HE2 : ∀ q, Hid (GB w (w3.drewN q) N (.slice ad n cp)) := fun q => ⟨HE.out.1, HE.out.2.1, HE.out.2.2.1, below_dN HE.out.2.2.2 q⟩
              have b3 := b1.1
              have b4 := b1.2
              have b5 := b2.1
              have b6 := b2.2
              clear hF b1 b2 HE
              generalize hc : cst L y x = c at *
              generalize hs : wsum L W k = s at *
              have Hc := Lib.hid (And.intro hc hs)
              clear hc hs
              go_wp2_with fail
              go_quiet (fail)
              go_wp2_with fail
              go_roundw
              case rel => exact ⟨k + 1, by omega, by go_num, by rw [Hadd.out], HS, HE2 _⟩
              case measure => simp [intOf]; omega
      · rw [Bool.not_eq_true] at h1
        have Hno : Hid (wcM N L W = -1) := wcM_no (i := k) (by rw [HW.out]; exact hlt) (by unfold stepB; rw [HX.out, h1, Bool.false_and])
        go_wp2_with fail
        go_region_held3 (fun w' => w'.cell? ⟨w.heap.size, 0, none⟩ = some (.int .i64 N) ∧ w'.cell? ⟨w.heap.size, 1, none⟩ = some (.slice ad n cp) ∧ w'.cell? ⟨gw, k, none⟩ = some (.int .i64 x) ∧ w.heap.size < w'.heap.size ∧ Below w.heap.size w w') (first | assumption | exact rk3_drew hkk | exact rk3_drew (by assumption) | exact rk3_keep (by omega) (by omega) (by omega) (by omega) (by assumption) (by assumption))
          (first | (go_at_call 56; refine (node_any N _ _ _ x _ hN1 hN2).mono ?_; rw [h1]; rintro e w2 ⟨rfl, hb⟩))
        have hE := (rk3_out (by assumption)).2
        go_wp2_with fail
        go_ret
        exact ⟨by rw [Hno.out]; rfl, hE⟩
    · have hge : ¬ ((k : Int) < (nw : Int)) := by omega
      obtain rfl : k = nw := by omega
      have Hv : Hid (wcM N L W = wsum L W k) := by
        show _ = _
        have := wcM_yes HG.out (by rw [HW.out]; omega) (by rw [HW.out]; omega) (fun i hi => hS.out i (by rw [HW.out] at hi; exact hi))
        rw [HW.out] at this; exact this
      clear hS
      go_wp2
      go_ret
      exact ⟨by rw [Hv.out]; rfl, HBw.out⟩

end Go.Proofs.Ytflhbfndfjkfgaa
