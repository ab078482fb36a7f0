/- The program sorts nodes by their distances: the library's stable sort, walked at rows of at most ten nodes. -/
import Derived.Test.YtjenjdhoblcohaaOs
import Derived.Test.YtjenjdhoblcohaaOi
import Derived.Test.YtjenjdhoblcohaaW1
import Derived.Test.YtjenjdhoblcohaaLm
import Derived.Test.YtjenjdhoblcohaaReg
namespace Go.Proofs.Ytjenjdhoblcohaa
open Go.RowKit

/-- The table of distances and the node, as the comparison finds them. -/
structure Dz (X Y M : Nat) (D : Int → Int) (d : Nat) (W : World) : Prop where
  tab : ∃ G cap, W.cell? ⟨X, 0, none⟩ = some (.slice (some ⟨G, 0, none⟩) M cap) ∧ G < W.heap.size ∧ ∀ i, i < M → ∃ gi ci, W.cell? ⟨G, i, none⟩ = some (.slice (some ⟨gi, 0, none⟩) M ci) ∧ gi < W.heap.size ∧ W.cell? ⟨gi, d, none⟩ = some (.int .i64 (D (i : Int)))
  nd : W.cell? ⟨Y, 0, none⟩ = some (.int .i64 (d : Int))
  lt : X < W.heap.size ∧ Y < W.heap.size ∧ d < M ∧ M ≤ 10
theorem Dz.grow {X Y M d : Nat} {D : Int → Int} {W W' : World} (h : Dz X Y M D d W) (b : Below W.heap.size W W') : Dz X Y M D d W' where
  tab := by
    obtain ⟨G, cap, h1, h2, h3⟩ := h.tab
    refine ⟨G, cap, by rw [b.cell (p := ⟨X, 0, none⟩) h.lt.1]; exact h1, Nat.lt_of_lt_of_le h2 b.size, fun i hi => ?_⟩
    obtain ⟨gi, ci, h4, h5, h6⟩ := h3 i hi
    exact ⟨gi, ci, by rw [b.cell (p := ⟨G, i, none⟩) h2]; exact h4, Nat.lt_of_lt_of_le h5 b.size, by rw [b.cell (p := ⟨gi, d, none⟩) h5]; exact h6⟩
  nd := by rw [b.cell (p := ⟨Y, 0, none⟩) h.lt.2.1]; exact h.nd
  lt := ⟨Nat.lt_of_lt_of_le h.lt.1 b.size, Nat.lt_of_lt_of_le h.lt.2.1 b.size, h.lt.2.2⟩
theorem cmpI_less (a b : Int) : decide (cmpI a b < 0) = decide (a < b) := by
  unfold cmpI
  refine decide_eq_decide.2 ?_
  split
  · constructor <;> intros <;> omega
  · split <;> constructor <;> intros <;> omega

set_option maxRecDepth 100000 in
set_option maxHeartbeats 4000000 in
theorem clos_any (X Y M d i j : Nat) (D : Int → Int) (w : World) (h : Dz X Y M D d w) (hi : i < M) (hj : j < M) :
    Calls Try.prog 64 #[.int .i64 (i : Int), .int .i64 (j : Int), .pointer (some ⟨X, 0, none⟩), .pointer (some ⟨Y, 0, none⟩)] w fun e w' => e = .returned (.int .i64 (cmpI (D (i : Int)) (D (j : Int)))) ∧ Below w.heap.size w w' := by
  obtain ⟨G, cap, h1, h2, h3⟩ := h.tab
  obtain ⟨gi, ci, h4, h5, h6⟩ := h3 i hi
  obtain ⟨gj, cj, h7, h8, h9⟩ := h3 j hj
  have h0 := h.nd
  have hl := h.lt
  have p0 : (0 : Int) ≤ (i : Int) := by omega
  have p1 : (i : Int) < (M : Int) := by omega
  have p2 : (0 : Int) ≤ (j : Int) := by omega
  have p3 : (j : Int) < (M : Int) := by omega
  have p4 : (0 : Int) ≤ (d : Int) := by omega
  have p5 : (d : Int) < (M : Int) := by omega
  generalize D (i : Int) = a at *
  generalize D (j : Int) = b at *
  clear h3 h hl
  go_enter Try.func64, Try.ntmps64
  go_wp2_with fail
  go_region_held3 (fun w' => w'.cell? ⟨X, 0, none⟩ = some (.slice (some ⟨G, 0, none⟩) M cap) ∧ w'.cell? ⟨Y, 0, none⟩ = some (.int .i64 (d : Int)) ∧ w'.cell? ⟨G, i, none⟩ = some (.slice (some ⟨gi, 0, none⟩) M ci) ∧ w'.cell? ⟨gi, d, none⟩ = some (.int .i64 a) ∧ w'.cell? ⟨G, j, none⟩ = some (.slice (some ⟨gj, 0, none⟩) M cj) ∧ w'.cell? ⟨gj, d, none⟩ = some (.int .i64 b) ∧ Hid (Below w.heap.size w w')) (first | assumption | exact ⟨h1, h0, h4, h6, h7, h9, Lib.hid (Below.refl _ _).drew⟩ | exact ⟨h1, h0, h4, h6, h7, h9, Lib.hid (Below.refl _ _)⟩)
    (first | (go_at_call 65; refine (cmp_any a b _).mono ?_; rintro e w2 ⟨rfl, rfl⟩))
  go_wp2
  go_ret
  exact ⟨rfl, (Below.refl _ _).drew⟩

theorem rin_start {w0 w : World} {g cap M a b : Nat} {Z : List Int} {x y : Int} (h : OwnI w0 w (.slice (some ⟨g, 0, none⟩) M cap) M Z) (ha : a < M) (hb : b < M) (hx : Z[a]? = some x) (hy : Z[b]? = some y) :
    w.cell? ⟨g, a, none⟩ = some (.int .i64 x) ∧ w.cell? ⟨g, b, none⟩ = some (.int .i64 y) ∧ Hid (OwnI w0 w (.slice (some ⟨g, 0, none⟩) M cap) M Z) := ⟨h.at ha hx, h.at hb hy, h⟩
theorem rin_out {w0 w : World} {g cap M a b : Nat} {Z : List Int} {x y : Int} (h : w.cell? ⟨g, a, none⟩ = some (.int .i64 x) ∧ w.cell? ⟨g, b, none⟩ = some (.int .i64 y) ∧ Hid (OwnI w0 w (.slice (some ⟨g, 0, none⟩) M cap) M Z)) : Below w0.heap.size w0 w := h.2.2.out.below
theorem rin_own {w0 w : World} {g cap M a b : Nat} {Z : List Int} {x y : Int} (h : w.cell? ⟨g, a, none⟩ = some (.int .i64 x) ∧ w.cell? ⟨g, b, none⟩ = some (.int .i64 y) ∧ Hid (OwnI w0 w (.slice (some ⟨g, 0, none⟩) M cap) M Z)) : Hid (OwnI w0 w (.slice (some ⟨g, 0, none⟩) M cap) M Z) := h.2.2
theorem rin_keep {w0 w w' : World} {g cap M a b : Nat} {Z : List Int} {x y : Int} (hz : Z[a]? = some x ∧ Z[b]? = some y ∧ a < M ∧ b < M)
    (h : w.cell? ⟨g, a, none⟩ = some (.int .i64 x) ∧ w.cell? ⟨g, b, none⟩ = some (.int .i64 y) ∧ Hid (OwnI w0 w (.slice (some ⟨g, 0, none⟩) M cap) M Z)) (hb : Below w.heap.size w w') :
    w'.cell? ⟨g, a, none⟩ = some (.int .i64 x) ∧ w'.cell? ⟨g, b, none⟩ = some (.int .i64 y) ∧ Hid (OwnI w0 w' (.slice (some ⟨g, 0, none⟩) M cap) M Z) := rin_start (h.2.2.out.grow hb) hz.2.2.1 hz.2.2.2 hz.1 hz.2.1

set_option maxRecDepth 100000 in
set_option maxHeartbeats 4000000 in
theorem isort_any (X Y M d g cap : Nat) (D : Int → Int) (w0 w : World) (h : Dz X Y M D d w0) (hO : OwnI w0 w (.slice (some ⟨g, 0, none⟩) M cap) M (ndK M)) :
    Calls Try.prog 110 #[.slice (some ⟨g, 0, none⟩) M cap, .int .i64 0, .int .i64 (M : Int), .func (.func 64) #[] #[.pointer (some ⟨X, 0, none⟩), .pointer (some ⟨Y, 0, none⟩)]] w fun e w' => e = .returned (.tuple #[]) ∧ OwnI w0 w' (.slice (some ⟨g, 0, none⟩) M cap) M (safeK D M) := by
  have HD := Lib.hid h
  have hl := h.lt
  have hM1 : 1 ≤ M := by omega
  have hM2 : M ≤ 10 := by omega
  have H0 : Hid (OwnI w0 w (.slice (some ⟨g, 0, none⟩) M cap) M (safeK D 1 ++ (ndK M).drop 1)) := by rw [← safe_one D hM1]; exact hO
  clear h hO hl
  go_enter Try.func110, Try.ntmps110
  go_wp2_with fail
  go_loopw [8, 9] (fun vi _ wr => ∃ k : Nat, vi = .int .i64 (k : Int) ∧ 1 ≤ k ∧ k ≤ M ∧ Hid (OwnI w0 wr (.slice (some ⟨g, 0, none⟩) M cap) M (safeK D k ++ (ndK M).drop k))) (fun vi _ _ => M - (intOf vi).toNat)
  case atStart => exact ⟨1, rfl, Nat.le_refl _, hM1, H0⟩
  case round =>
    obtain ⟨k, rfl, hk1, hk, hR⟩ := hrel
    by_cases hlt : k < M
    · have q0 : (k : Int) < (M : Int) := by omega
      go_wp2_with fail
      go_loopw [9] (fun vj wr2 => ∃ (j : Nat) (Z : List Int), vj = .int .i64 (j : Int) ∧ j ≤ k ∧ Hid (OwnI w0 wr2 (.slice (some ⟨g, 0, none⟩) M cap) M Z) ∧ Hid (InS D M k j Z)) (fun vj _ => (intOf vj).toNat)
      case atStart => exact ⟨k, _, rfl, Nat.le_refl _, hR, InS.start D hlt⟩
      case round =>
        obtain ⟨j, Z, rfl, hj, hR2, hI⟩ := hrel
        have HZL := Lib.hid (hI.out.len hlt)
        by_cases hj0 : j = 0
        · have HN : Hid (OwnI w0 wr (.slice (some ⟨g, 0, none⟩) M cap) M (safeK D (k + 1) ++ (ndK M).drop (k + 1))) := by
            have e := hI.out.stop (by omega) (fun i y he _ => by omega)
            rw [← e]
            exact hR2.out
          subst hj0
          clear hR hR2
          go_wp2_with fail
          go_quiet (fail)
          go_wp2_with fail
          go_roundw
          case rel => exact ⟨k + 1, by go_num, by omega, by omega, Lib.hid (HN.out.drewN _)⟩
          case measure => simp [intOf]; omega
        · obtain ⟨q, hq⟩ : ∃ q, j = q + 1 := ⟨j - 1, by omega⟩
          have hI' := hI.out
          rw [hq] at hI'
          have z0 := hI'.at0
          obtain ⟨y, z1, hy0, hyk⟩ := hI'.at1
          have HI := Lib.hid hI'
          have hZ : Z[j]? = some (k : Int) ∧ Z[q]? = some y ∧ j < M ∧ q < M := ⟨by rw [hq]; exact z0, z1, by omega, by omega⟩
          have HZ := Lib.hid hZ
          have c0 := hR2.out.at hZ.2.2.1 hZ.1
          have c1 := hR2.out.at hZ.2.2.2 hZ.2.1
          have f0 := hR2.out.frz j
          have f1 := hR2.out.frz q
          have hne : ¬ j = q := by omega
          obtain ⟨yn, rfl⟩ : ∃ yn : Nat, y = (yn : Int) := ⟨y.toNat, by omega⟩
          have hyk' : yn < M := by omega
          have p0 : (0 : Int) ≤ (j : Int) := by omega
          have p1 : (j : Int) < (M : Int) := by omega
          have p2 : (0 : Int) ≤ (q : Int) := by omega
          have p3 : (q : Int) < (M : Int) := by omega
          have p4 : (0 : Int) < (j : Int) := by omega
          have p5 : decide ((j : Int) > 0) = true := decide_eq_true (by omega)
          have p6 : decide (0 < j) = true := decide_eq_true (by omega)
          have hw1 : IntKind.i64.wrap ((j : Int) - 1) = (q : Int) := by rw [IntKind.wrap_i64]; omega
          have HQ := Lib.hid hq
          have hcl := cmpI_less (D (k : Int)) (D (yn : Int))
          have HC := Lib.hid (fun w' (h' : Below w0.heap.size w0 w') => clos_any X Y M d k yn D w' (HD.out.grow h') hlt hyk')
          generalize hcv : cmpI (D (k : Int)) (D (yn : Int)) = cv at *
          have Hcl := Lib.hid hcl
          clear hI' z0 z1 hZ hq hI hcl hcv hj0 hR
          by_cases hcc : cv < 0
          · have hdlt : D (k : Int) < D (yn : Int) := of_decide_eq_true (by rw [← Hcl.out]; exact decide_eq_true hcc)
            have HI2 := Lib.hid (HI.out.step HZ.out.2.1 hdlt)
            clear hdlt
            go_wp2_with fail
            go_region_held3 (fun w' => w'.cell? ⟨g, j, none⟩ = some (.int .i64 (k : Int)) ∧ w'.cell? ⟨g, q, none⟩ = some (.int .i64 (yn : Int)) ∧ Hid (OwnI w0 w' (.slice (some ⟨g, 0, none⟩) M cap) M Z)) (first | assumption | exact ⟨c0, c1, Lib.hid hR2.out.drew⟩ | exact ⟨c0, c1, hR2⟩ | exact rin_keep HZ.out (by assumption) (by assumption) | exact rin_keep HZ.out (by assumption) ((Below.refl _ _).drew))
              (first | (go_at_call 64; refine (HC.out _ (rin_out (by assumption))).mono ?_; rintro e w2 ⟨rfl, hb2⟩))
            have HO6 := rin_own (by assumption)
            have d0 := HO6.out.at HZ.out.2.2.1 HZ.out.1
            have d1 := HO6.out.at HZ.out.2.2.2 HZ.out.2.1
            have g0 := HO6.out.frz j
            have g1 := HO6.out.frz q
            have HS : Hid (OwnI w0 ((w2.setCell ⟨g, j, none⟩ (.int .i64 (yn : Int))).setCell ⟨g, q, none⟩ (.int .i64 (k : Int))) (.slice (some ⟨g, 0, none⟩) M cap) M ((Z.set j (yn : Int)).set q (k : Int))) := (HO6.out.set j _).set q _
            have HIq : Hid (InS D M k q ((Z.set j (yn : Int)).set q (k : Int))) := by rw [HQ.out]; exact HI2.out
            clear c0 c1 f0 f1 HC HO6 HI2
            go_wp2_with fail
            go_region
            go_wp2_with fail
            go_roundw
            case rel => exact ⟨q, _, by go_num, by have h1 : j = q + 1 := HQ.out; omega, Lib.hid HS.out.drew, HIq⟩
            case measure =>
              have hq1 : j = q + 1 := HQ.out
              subst hq1
              simp only [intOf, Int.toNat_natCast]
              omega
          · have hdge : ¬ (D (k : Int) < D (yn : Int)) := of_decide_eq_false (by rw [← Hcl.out]; exact decide_eq_false hcc)
            have HN : ∀ W, OwnI w0 W (.slice (some ⟨g, 0, none⟩) M cap) M Z → Hid (OwnI w0 W (.slice (some ⟨g, 0, none⟩) M cap) M (safeK D (k + 1) ++ (ndK M).drop (k + 1))) := fun W hW => by
              have e := HI.out.stop (by omega) (fun i y' he hy' => by
                have : i = q := by omega
                subst this
                rw [HZ.out.2.1] at hy'
                cases hy'
                omega)
              show OwnI _ _ _ _ _
              rw [← e]
              exact hW
            have HNh := Lib.hid HN
            clear hdge HN
            go_wp2_with fail
            go_region_held3 (fun w' => w'.cell? ⟨g, j, none⟩ = some (.int .i64 (k : Int)) ∧ w'.cell? ⟨g, q, none⟩ = some (.int .i64 (yn : Int)) ∧ Hid (OwnI w0 w' (.slice (some ⟨g, 0, none⟩) M cap) M Z)) (first | assumption | exact ⟨c0, c1, Lib.hid hR2.out.drew⟩ | exact ⟨c0, c1, hR2⟩ | exact rin_keep HZ.out (by assumption) (by assumption) | exact rin_keep HZ.out (by assumption) ((Below.refl _ _).drew))
              (first | (go_at_call 64; refine (HC.out _ (rin_out (by assumption))).mono ?_; rintro e w2 ⟨rfl, hb2⟩))
            have HO6 := HNh.out _ (rin_own (by assumption)).out
            go_wp2_with fail
            go_roundw
            case rel => exact ⟨k + 1, by go_num, by omega, by omega, HO6⟩
            case measure => simp [intOf]; omega
    · obtain rfl : k = M := by omega
      have hge : ¬ ((k : Int) < (k : Int)) := by omega
      have HE : Hid (OwnI w0 wr (.slice (some ⟨g, 0, none⟩) k cap) k (safeK D k)) := by
        have := hR.out
        rw [safe_end] at this
        exact this
      go_wp2_with fail
      exact bodyPost_end (v := .tuple #[]) (by simp [results, Try.results110, go_sem]) rfl ⟨rfl, HE.out⟩

set_option maxRecDepth 100000 in
set_option maxHeartbeats 4000000 in
theorem stable_any (X Y M d g cap : Nat) (D : Int → Int) (w0 w : World) (h : Dz X Y M D d w0) (hO : OwnI w0 w (.slice (some ⟨g, 0, none⟩) M cap) M (ndK M)) :
    Calls Try.prog 90 #[.slice (some ⟨g, 0, none⟩) M cap, .int .i64 (M : Int), .func (.func 64) #[] #[.pointer (some ⟨X, 0, none⟩), .pointer (some ⟨Y, 0, none⟩)]] w fun e w' => e = .returned (.tuple #[]) ∧ OwnI w0 w' (.slice (some ⟨g, 0, none⟩) M cap) M (safeK D M) := by
  have hl := h.lt
  have hM2 : M ≤ 10 := by omega
  have HC := Lib.hid (isort_any X Y M d g cap D w0 w h hO)
  have p0 : ¬ ((20 : Int) ≤ (M : Int)) := by omega
  have p1 : ¬ ((20 : Int) < (M : Int)) := by omega
  clear h hO hl
  go_enter Try.func90, Try.ntmps90
  go_wp2_with fail
  go_loopw [7, 8] (fun a b wr => a = .int .i64 0 ∧ b = .int .i64 20 ∧ w = wr) (fun _ _ _ => 0)
  case atStart => exact ⟨rfl, rfl, rfl⟩
  case round =>
    obtain ⟨rfl, rfl, rfl⟩ := hrel
    go_wp2_with fail
    go_at_call 110
    refine HC.out.mono ?_
    rintro e w2 ⟨rfl, hO2⟩
    have HO2 := Lib.hid hO2
    clear hO2 HC
    go_wp2_with fail
    go_loopw [6, 7, 8, 9] (fun a _ _ _ wr => a = .int .i64 20 ∧ w2 = wr) (fun _ _ _ _ _ => 0)
    case atStart => exact ⟨rfl, rfl⟩
    case round =>
      obtain ⟨rfl, rfl⟩ := hrel
      go_wp2_with fail
      exact bodyPost_end (v := .tuple #[]) (by simp [results, Try.results90, go_sem]) rfl ⟨rfl, HO2.out⟩

set_option maxRecDepth 100000 in
set_option maxHeartbeats 4000000 in
theorem sortst_any (X Y M d g cap : Nat) (D : Int → Int) (w0 w : World) (h : Dz X Y M D d w0) (hO : OwnI w0 w (.slice (some ⟨g, 0, none⟩) M cap) M (ndK M)) :
    Calls Try.prog 63 #[.slice (some ⟨g, 0, none⟩) M cap, .func (.func 64) #[] #[.pointer (some ⟨X, 0, none⟩), .pointer (some ⟨Y, 0, none⟩)]] w fun e w' => e = .returned (.tuple #[]) ∧ OwnI w0 w' (.slice (some ⟨g, 0, none⟩) M cap) M (safeK D M) := by
  have HC := Lib.hid (stable_any X Y M d g cap D w0 w h hO)
  clear h hO
  go_enter Try.func63, Try.ntmps63
  go_wp2_with fail
  go_at_call 90
  refine HC.out.mono ?_
  rintro e w2 ⟨rfl, hO2⟩
  have HO2 := Lib.hid hO2
  clear hO2 HC
  go_wp2_with fail
  exact bodyPost_end (v := .tuple #[]) (by simp [results, Try.results63, go_sem]) rfl ⟨rfl, HO2.out⟩

end Go.Proofs.Ytjenjdhoblcohaa
