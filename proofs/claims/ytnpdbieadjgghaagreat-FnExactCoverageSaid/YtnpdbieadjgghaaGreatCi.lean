/- Coverage of the program: pairs added up as a complex number. -/
import Derived.Test.YtnpdbieadjgghaaGreatRows
import Derived.Test.YtnpdbieadjgghaaGreatProg
import Derived.Laws.ComplexArith
import Derived.Laws.FloatArith
import Derived.Laws.Cover3
import Derived.KernelRfl
import Derived.Test.YtnpdbieadjgghaaGreatSb2
import Derived.Test.YtnpdbieadjgghaaGreatGd
import Derived.Test.YtnpdbieadjgghaaGreatKq
import Derived.Test.YtnpdbieadjgghaaGreatIb
import Derived.Test.YtnpdbieadjgghaaGreatKt
namespace Go.Proofs.YtnpdbieadjgghaaGreat
open Go.RowKit

/-- The bits of 1.0, and of the whole numbers as they are added up. -/
def one64 : Nat := 4607182418800017408
def fb : Nat → Nat
  | 0 => 0
  | k + 1 => (floatBits .add .f64 (fb k) one64).getD 0
theorem fb_all : ((List.range 101).all fun k => (floatBits .add .f64 (fb k) one64 == some (fb (k + 1))) && (floatBits .add .f64 (fb k) 0 == some (fb k)) && (floatToIntVal .f64 (fb k) .i64 == some (k : Int))) = true := by kernel_rfl
theorem fb_at {k : Nat} (h : k ≤ 100) : floatBits .add .f64 (fb k) one64 = some (fb (k + 1)) ∧ floatBits .add .f64 (fb k) 0 = some (fb k) ∧ floatToIntVal .f64 (fb k) .i64 = some (k : Int) := by
  have h1 := List.all_eq_true.1 fb_all k (List.mem_range.2 (by omega))
  rw [Bool.and_eq_true, Bool.and_eq_true, beq_iff_eq, beq_iff_eq, beq_iff_eq] at h1
  exact ⟨h1.1.1, h1.1.2, h1.2⟩
/-- One more pair; with an alternate (1) or without (0). -/
theorem csum_one {h a : Nat} (hh : h ≤ 100) (ha : a ≤ 100) (w : World) : (binOp .add 57 (.complex .f64 (fb h) (fb a)) (.complex .f64 one64 one64)).run Tryz.prog w = .ok (.complex .f64 (fb (h + 1)) (fb (a + 1))) w :=
  run_complex_sum w .add (.inl rfl) 57 .f64 _ _ _ _ _ _ (by unfold cSumBits; rw [(fb_at hh).1, (fb_at ha).1]; rfl)
theorem csum_zero {h a : Nat} (hh : h ≤ 100) (ha : a ≤ 100) (w : World) : (binOp .add 57 (.complex .f64 (fb h) (fb a)) (.complex .f64 0 one64)).run Tryz.prog w = .ok (.complex .f64 (fb h) (fb (a + 1))) w :=
  run_complex_sum w .add (.inl rfl) 57 .f64 _ _ _ _ _ _ (by unfold cSumBits; rw [(fb_at hh).2.1, (fb_at ha).1]; rfl)
theorem cint {k : Nat} (hk : k ≤ 100) (w : World) : (convert 63 3 (.float .f64 (fb k))).run Tryz.prog w = .ok (.int .i64 (k : Int)) w :=
  run_convert_float_int w 63 3 .f64 .i64 (fb k) k (by rw [Tryz.underlying63]; rfl) Tryz.underlying3 (fb_at hk).2.2

/-- Whether the pair number u of nodes is counted, and whether it has an alternate. -/
def prB (N : Int) (L : List Ed) (M u : Nat) : Bool := decide (hopsL N L ((u / M : Nat) : Int) ((u % M : Nat) : Int) ≠ [])
def okB (N : Int) (L : List Ed) (M u : Nat) : Bool := prB N L M u && decide (0 ≤ bstL N L ((u / M : Nat) : Int) ((hopsL N L ((u / M : Nat) : Int) ((u % M : Nat) : Int)).headD 0) ((u % M : Nat) : Int))
def covH (N : Int) (L : List Ed) : Nat := if g10 N L [] = true then cntB (okB N L N.toNat) (N.toNat * N.toNat) else 0
def covA (N : Int) (L : List Ed) : Nat := if g10 N L [] = true then cntB (prB N L N.toNat) (N.toNat * N.toNat) else 0
theorem prB_at {N : Int} {L : List Ed} {M s d : Nat} (hd : d < M) : prB N L M (s * M + d) = decide (hopsL N L (s : Int) (d : Int) ≠ []) := by
  unfold prB; rw [(pair_div hd).1, (pair_div hd).2]
theorem okB_at {N : Int} {L : List Ed} {M s d : Nat} (hd : d < M) : okB N L M (s * M + d) = (decide (hopsL N L (s : Int) (d : Int) ≠ []) && decide (0 ≤ bstL N L (s : Int) ((hopsL N L (s : Int) (d : Int)).headD 0) (d : Int))) := by
  unfold okB; rw [prB_at hd, (pair_div hd).1, (pair_div hd).2]
theorem cnt_yes {p : Nat → Bool} {u : Nat} (h : p u = true) : cntB p (u + 1) = cntB p u + 1 := by show cntB p u + _ = _; rw [if_pos h]
theorem cnt_no {p : Nat → Bool} {u : Nat} (h : p u = false) : cntB p (u + 1) = cntB p u := by show cntB p u + _ = _; rw [if_neg (by rw [h]; decide)]; rfl
theorem sq_le {M s d : Nat} (hs : s ≤ M) (hM : M ≤ 10) (hd : d ≤ M) : s * M ≤ 100 ∧ s * M + d ≤ 110 := by
  have : s * M ≤ 10 * 10 := Nat.mul_le_mul (by omega) hM
  omega
theorem sq_lt {M s d : Nat} (hs : s < M) (hM : M ≤ 10) (hd : d < M) : s * M + d + 1 ≤ 100 := by
  have h1 : (s + 1) * M ≤ M * M := Nat.mul_le_mul_right M hs
  have h2 : M * M ≤ 10 * 10 := Nat.mul_le_mul hM hM
  rw [Nat.succ_mul] at h1
  omega
theorem pickS_mem (c : Int → Int) : ∀ (l : List Int) (b : Int × Int), (pickS c l b).1 = b.1 ∨ (pickS c l b).1 ∈ l
  | [], b => .inl rfl
  | x :: l, b => by
    unfold pickS
    rcases pickS_mem c l (if b.1 < 0 ∨ c x < b.2 then (x, c x) else b) with h | h
    · rw [h]
      split
      · exact .inr (List.mem_cons_self ..)
      · exact .inl rfl
    · exact .inr (List.mem_cons_of_mem _ h)
theorem hops_len (N : Int) (L : List Ed) (x y : Int) : (hopsL N L x y).length ≤ 10 := by
  unfold hopsL
  split
  · exact nodup_bound 10 _ ((setL_sorted _).imp (fun h e => by omega)) (fun z hz => (mem_setL.1 hz).1)
  · simp
set_option maxRecDepth 100000 in
set_option maxHeartbeats 4000000 in
theorem scov_any (N : Int) (lo hi n : Nat) (v : Value) (L : List Ed) (w : World) (hL : L.length = n) (hr : Row 3 w lo hi v n (flat L)) (hh : hi ≤ w.heap.size) :
    Calls Tryz.prog 7 #[.agg #[.int .i64 N, v]] w fun e w' => e = .returned (.tuple #[.int .i64 (covH N L : Int), .int .i64 (covA N L : Int)]) ∧ Below w.heap.size w w' := by
  obtain ⟨ad, cp, rfl⟩ := hr.slice
  have HG := Lib.hid (Gx.start (N := N) hr hh)
  clear hr
  go_enter Tryz.func7, Tryz.ntmps7
  go_wp2_with fail
  go_at_call 30
  refine (sgood_any N lo hi n _ L 0 0 0 _ [] _ hL HG.out.row HG.out.hi (Row.empty _ _ _ _ _ _) (Nat.zero_le _) (by omega)).mono ?_
  rintro e v1 ⟨rfl, b1⟩
  have H1 := Lib.hid (HG.out.grow b1)
  have c10 := H1.out.c0
  have c11 := H1.out.c1
  clear b1
  by_cases hg : g10 N L [] = true
  · have HK := Lib.hid (g10_gok hg)
    obtain ⟨M, rfl⟩ : ∃ M : Nat, N = (M : Int) := ⟨N.toNat, by have := (gok_parts HK.out).1; omega⟩
    have hM10 : M ≤ 10 := by have := (gok_parts HK.out).2.1; omega
    have HH : Hid (covH (M : Int) L = cntB (okB (M : Int) L M) (M * M)) := by show _ = _; unfold covH; rw [hg, if_pos rfl, Int.toNat_natCast]
    have HA : Hid (covA (M : Int) L = cntB (prB (M : Int) L M) (M * M)) := by show _ = _; unfold covA; rw [hg, if_pos rfl, Int.toNat_natCast]
    rw [hg]
    clear hg
    go_wp2_with fail
    go_loopw [4, 5, 6] (fun h a i wr => ∃ s : Nat, s ≤ M ∧ i = .int .i64 (s : Int) ∧ h = .int .i64 (cntB (okB (M : Int) L M) (s * M) : Int) ∧ a = .int .i64 (cntB (prB (M : Int) L M) (s * M) : Int) ∧ Hid (Gx w wr (M : Int) ad n cp lo hi L)) (fun _ _ i _ => M - (intOf i).toNat)
    case atStart => exact ⟨0, Nat.zero_le _, rfl, by rw [Nat.zero_mul]; rfl, by rw [Nat.zero_mul]; rfl, H1⟩
    case round =>
      clear c10 c11
      obtain ⟨s, hs, rfl, rfl, rfl, hR⟩ := hrel
      have c0 := hR.out.c0
      have c1 := hR.out.c1
      have hq := sq_le (d := 0) hs hM10 (Nat.zero_le _)
      by_cases hlt0 : s < M
      · have q0 : (s : Int) < (M : Int) := by omega
        go_wp2_with fail
        go_loopw [4, 5, 7] (fun h a i wr => ∃ d : Nat, d ≤ M ∧ i = .int .i64 (d : Int) ∧ h = .int .i64 (cntB (okB (M : Int) L M) (s * M + d) : Int) ∧ a = .int .i64 (cntB (prB (M : Int) L M) (s * M + d) : Int) ∧ Hid (Gx w wr (M : Int) ad n cp lo hi L)) (fun _ _ i _ => M - (intOf i).toNat)
        case atStart => exact ⟨0, Nat.zero_le _, rfl, rfl, rfl, hR⟩
        case round =>
          clear c0 c1 hR
          obtain ⟨d, hd, rfl, rfl, rfl, hR⟩ := hrel
          have c0 := hR.out.c0
          have c1 := hR.out.c1
          have hq2 := sq_le (d := d) hs hM10 hd
          have hb1 := cntB_le (okB (M : Int) L M) (s * M + d)
          have hb2 := cntB_le (prB (M : Int) L M) (s * M + d)
          by_cases hlt : d < M
          · have q1 : (d : Int) < (M : Int) := by omega
            go_wp2_with fail
            go_at_call 31
            refine (shop_any (M : Int) lo hi n _ L (s : Int) (d : Int) _ hL hR.out.row hR.out.hi).mono ?_
            rintro e v3 ⟨rv, rfl, hrow, b3⟩
            have H3 := Lib.hid (hR.out.grow b3)
            clear b3 hR c0 c1
            have c0 := H3.out.c0
            have c1 := H3.out.c1
            have hlen := hops_len (M : Int) L (s : Int) (d : Int)
            obtain ⟨ZZ, hZZ⟩ : ∃ Z, Z = hopsL (M : Int) L (s : Int) (d : Int) := ⟨_, rfl⟩
            have HOP := Lib.hid hZZ.symm
            rw [← hZZ] at hrow hlen
            obtain ⟨az, cz, rfl⟩ := hrow.slice
            clear hZZ
            rcases ZZ with _ | ⟨f, Z⟩
            · have HNA := Lib.hid (cnt_no (p := (prB (M : Int) L M)) (u := s * M + d) (by rw [prB_at hlt, HOP.out]; rfl))
              have HNO := Lib.hid (cnt_no (p := (okB (M : Int) L M)) (u := s * M + d) (by rw [okB_at hlt, HOP.out]; rfl))
              clear hrow
              go_wp2_with fail
              go_roundw
              case rel => exact ⟨d + 1, by omega, by go_num, by rw [← Nat.add_assoc, HNO.out], by rw [← Nat.add_assoc, HNA.out], H3⟩
              case measure => simp [intOf]; omega
            · have HOPS := HOP
              obtain ⟨gz, cg, e1, hg1, hgz, hcell⟩ := row_cells (by simp) hrow
              cases e1
              have y0 : v3.cell? ⟨gz, 0, none⟩ = some (.int .i64 f) := hcell 0 f rfl
              have HPA := Lib.hid (cnt_yes (p := (prB (M : Int) L M)) (u := s * M + d) (by rw [prB_at hlt, HOP.out]; rfl))
              obtain ⟨R, hRR⟩ : ∃ R, R = bstL (M : Int) L (s : Int) f (d : Int) := ⟨_, rfl⟩
              have HR := Lib.hid hRR
              have z9 : (((Z.length : Int) + 1) == 0) = false := beq_eq_false_iff_ne.2 (by omega)
              have z8 : ¬ ((Z.length : Int) + 1 = 0) := by omega
              clear hrow hcell hRR HOP
              go_wp2_with fail
              refine wp_region_held_drew (S := (fun w' => w'.cell? ⟨w.heap.size, 0, none⟩ = some (.int .i64 (M : Int)) ∧ w'.cell? ⟨w.heap.size, 1, none⟩ = some (.slice ad n cp) ∧ w'.cell? ⟨gz, 0, none⟩ = some (.int .i64 f) ∧ Hid (Gx w w' (M : Int) ad n cp lo hi L))) (by kernel_rfl) ?_ (fun hHeld => ?_)
              · exact ⟨c0, c1, y0, Lib.hid H3.out.drew⟩
              refine step_read 0 33 rfl rfl (by kernel_rfl) (by kernel_rfl) (by kernel_rfl) (fun _ _ _ h => h) (by rfl) (v := ?_) (fun w hSw => ?_) (by assumption) ?_; rotate_left; (focus ((try dsimp only at hSw); go_simp; first | done | exact rfl)); simp only [List.set]
              refine step_read 1 34 rfl rfl (by kernel_rfl) (by kernel_rfl) (by kernel_rfl) (fun _ _ _ h => h) (by rfl) (v := ?_) (fun w hSw => ?_) (by assumption) ?_; rotate_left; (focus ((try dsimp only at hSw); go_simp; first | done | exact rfl)); simp only [List.set]
              refine step_read 2 35 rfl rfl (by kernel_rfl) (by kernel_rfl) (by kernel_rfl) (fun _ _ _ h => h) (by rfl) (v := ?_) (fun w hSw => ?_) (by assumption) ?_; rotate_left; (focus ((try dsimp only at hSw); go_simp; first | done | exact rfl)); simp only [List.set]
              refine step_read 3 36 rfl rfl (by kernel_rfl) (by kernel_rfl) (by kernel_rfl) (fun _ _ _ h => h) (by rfl) (v := ?_) (fun w hSw => ?_) (by assumption) ?_; rotate_left; (focus ((try dsimp only at hSw); go_simp; first | done | exact rfl)); simp only [List.set]
              refine step_read 4 37 rfl rfl (by kernel_rfl) (by kernel_rfl) (by kernel_rfl) (fun _ _ _ h => h) (by rfl) (v := ?_) (fun w hSw => ?_) (by assumption) ?_; rotate_left; (focus ((try dsimp only at hSw); go_simp; first | done | exact rfl)); simp only [List.set]
              refine step_read 5 38 rfl rfl (by kernel_rfl) (by kernel_rfl) (by kernel_rfl) (fun _ _ _ h => h) (by rfl) (v := ?_) (fun w hSw => ?_) (by assumption) ?_; rotate_left; (focus ((try dsimp only at hSw); go_simp; first | done | exact rfl)); simp only [List.set]
              refine wpAnyH_ready (rs := [6]) (by kernel_rfl) (by simp) ?_
              refine AllReadyH.cons rfl (fun Kc hK => ?_) (AllReadyH.nil)
              go_simp
              go_at_call 32
              refine (sbest_any (M : Int) lo hi n _ L (s : Int) f (d : Int) _ hL hHeld.2.2.2.out.row hHeld.2.2.2.out.hi).mono ?_
              rintro e w9 ⟨he, b9⟩
              rw [← HR.out] at he
              subst he
              have Hh9 := Lib.hid hHeld
              have B9 := Lib.hid b9
              clear hHeld b9
              refine hK.out _ _ ?_ (fun hHeld => ?_)
              · exact ⟨by rw [B9.out.cell (p := ⟨w.heap.size, 0, none⟩) Hh9.out.2.2.2.out.lt]; exact Hh9.out.1, by rw [B9.out.cell (p := ⟨w.heap.size, 1, none⟩) Hh9.out.2.2.2.out.lt]; exact Hh9.out.2.1, by rw [B9.out.cell (p := ⟨gz, 0, none⟩) (by show gz < v3.heap.size; exact hgz)]; exact Hh9.out.2.2.1, Hh9.out.2.2.2.out.grow B9.out⟩
              clear hK Kc
              refine step_read 7 40 rfl rfl (by kernel_rfl) (by kernel_rfl) (by kernel_rfl) (fun _ _ _ h => h) (by rfl) (v := ?_) (fun w hSw => ?_) (by assumption) ?_; rotate_left; (focus ((try dsimp only at hSw); go_simp; first | done | exact rfl)); simp only [List.set]
              refine wpAnyH_done (by kernel_rfl) ?_ _
              have HE := hHeld.2.2.2
              clear hHeld
              by_cases a1 : 0 ≤ R
              · have z1 : decide (0 ≤ R) = true := decide_eq_true a1
                have HN := Lib.hid (cnt_yes (p := (okB (M : Int) L M)) (u := s * M + d) (by rw [okB_at hlt, HOPS.out]; show (decide (f :: Z ≠ []) && decide (0 ≤ bstL (M : Int) L (s : Int) f (d : Int))) = true; rw [← HR.out, z1]; rfl))
                have a2 : ¬ R < 0 := by omega
                go_wp2_with fail
                go_roundw
                case rel => exact ⟨d + 1, by omega, by go_num, by rw [← Nat.add_assoc, HN.out]; go_num, by rw [← Nat.add_assoc, HPA.out]; go_num, HE⟩
                case measure => simp [intOf]; omega
              · have z1 : decide (0 ≤ R) = false := decide_eq_false a1
                have HN := Lib.hid (cnt_no (p := (okB (M : Int) L M)) (u := s * M + d) (by rw [okB_at hlt, HOPS.out]; show (decide (f :: Z ≠ []) && decide (0 ≤ bstL (M : Int) L (s : Int) f (d : Int))) = false; rw [← HR.out, z1]; rfl))
                have a2 : R < 0 := by omega
                go_wp2_with fail
                go_roundw
                case rel => exact ⟨d + 1, by omega, by go_num, by rw [← Nat.add_assoc, HN.out], by rw [← Nat.add_assoc, HPA.out]; go_num, HE⟩
                case measure => simp [intOf]; omega
          · have hge : ¬ ((d : Int) < (M : Int)) := by omega
            obtain rfl : d = M := by omega
            go_wp2_with fail
            go_roundw
            case rel => exact ⟨s + 1, by omega, by go_num, by rw [Nat.succ_mul], by rw [Nat.succ_mul], hR⟩
            case measure => simp [intOf]; omega
      · have hge : ¬ ((s : Int) < (M : Int)) := by omega
        obtain rfl : s = M := by omega
        go_wp2_with fail
        refine bodyPost_ret (v := .tuple #[.int .i64 (cntB (okB (s : Int) L s) (s * s) : Int), .int .i64 (cntB (prB (s : Int) L s) (s * s) : Int)]) (by simp [results, Tryz.results7, go_sem]) rfl ⟨by rw [HH.out, HA.out], hR.out.below⟩
  · rw [Bool.not_eq_true] at hg
    have HH : Hid (covH N L = 0) := by show _ = _; unfold covH; rw [hg, if_neg (by decide)]
    have HA : Hid (covA N L = 0) := by show _ = _; unfold covA; rw [hg, if_neg (by decide)]
    rw [hg]
    clear hg
    go_wp2
    refine bodyPost_ret (v := .tuple #[.int .i64 0, .int .i64 0]) (by simp [results, Tryz.results7, go_sem]) rfl ⟨by rw [HH.out, HA.out]; rfl, H1.out.below⟩

set_option maxRecDepth 100000 in
set_option maxHeartbeats 4000000 in
theorem tally_any (X M s f d : Nat) (L : List Ed) (w : World) (h : Sv w X M L) (hs : s < M) (hd : d < M) (hrep : repB (M : Int) L (s : Int) (f : Int) (d : Int) = true) :
    Calls Tryz.prog 36 #[rpV X s f d] w fun e w' => e = .returned (.complex .f64 (if 0 ≤ bstL (M : Int) L (s : Int) (f : Int) (d : Int) then one64 else 0) one64) ∧ Kx X M L w w' := by
  have hX := h.lt
  have b1 : Below w.heap.size w (w.alloc (.cells #[.pointer (some ⟨X, 0, none⟩), .int .i64 (s : Int), .int .i64 (f : Int), .int .i64 (d : Int)] 61)) := (Below.refl _ _).alloc (Nat.le_refl _) _
  have K1 := Lib.hid (Kx.of h b1)
  have HB := Lib.hid (best_any X M s f d L _ (h.grow b1) hs hd)
  rw [← bst_eq M L s f d hrep] at HB
  have hcase : bstL (M : Int) L (s : Int) (f : Int) (d : Int) = -1 ∨ 0 ≤ bstL (M : Int) L (s : Int) (f : Int) (d : Int) := by
    rw [bst_eq M L s f d hrep]
    rcases pickS_mem (fun y => cst L (s : Int) y + dsT (M : Int) L y (d : Int)) (firstN M (altB (M : Int) L (s : Int) (f : Int) (d : Int))) (-1, 0) with h | h
    · exact .inl h
    · exact .inr (firstN_mem h).1
  generalize bstL (M : Int) L (s : Int) (f : Int) (d : Int) = R at *
  clear h b1 hs hd hrep
  unfold rpV at HB ⊢
  by_cases a1 : 0 ≤ R
  · rw [if_pos a1]
    have z1 : (R == -1) = false := beq_eq_false_iff_ne.2 (by omega)
    clear a1 hcase
    go_enter Tryz.func36, Tryz.ntmps36
    go_wp2_with fail
    go_at_call 47
    refine HB.out.mono ?_
    rintro e w2 ⟨rfl, k2⟩
    have K2 := Lib.hid (K1.out.trans hX k2)
    clear k2 HB
    go_wp2
    go_ret
    exact ⟨rfl, K2.out⟩
  · rw [if_neg a1]
    have z1 : (R == -1) = true := by rcases hcase with h | h; · rw [h]; rfl
                                     · exact absurd h a1
    clear a1 hcase
    go_enter Tryz.func36, Tryz.ntmps36
    go_wp2_with fail
    go_at_call 47
    refine HB.out.mono ?_
    rintro e w2 ⟨rfl, k2⟩
    have K2 := Lib.hid (K1.out.trans hX k2)
    clear k2 HB
    go_wp2
    go_ret
    exact ⟨rfl, K2.out⟩

/-- The first next hop is a neighbor. -/
theorem hop_near {M s d : Nat} {L : List Ed} (hG : gok (M : Int) L = true) {f : Int} (h : f ∈ hopsL (M : Int) L (s : Int) (d : Int)) : (0 ≤ f ∧ f < (M : Int)) ∧ nearB L (s : Int) f = true := by
  unfold hopsL at h
  split at h
  · have h1 := (mem_setL.1 h).2
    have h2 : tgP (M : Int) L (d : Int) (s : Int) f := of_decide_eq_true h1
    have h3 := cst_near hG h2.1
    exact ⟨h3.2.1, decide_eq_true h2.1⟩
  · cases h
theorem Gb.keep {w w1 wr : World} {N : Int} {ad : Option Addr} {n cp lo hi X : Nat} {L : List Ed} (h : Gx w w1 N ad n cp lo hi L) (hb : But X w1 wr) (hX : w.heap.size < X) : Gx w wr N ad n cp lo hi L := by
  have hl := h.lt
  have hh := h.hh
  exact ⟨h.below.trans (hb.below (by omega) (by omega)), by rw [hb.cell hl (by omega)]; exact h.c0, by rw [hb.cell hl (by omega)]; exact h.c1, h.row.but hb (by omega) (.inl (by omega)), Nat.lt_of_lt_of_le hl hb.size, hh⟩

set_option maxRecDepth 100000 in
set_option maxHeartbeats 4000000 in
theorem icov_any (N : Int) (lo hi n : Nat) (v : Value) (L : List Ed) (w : World) (hL : L.length = n) (hr : Row 3 w lo hi v n (flat L)) (hh : hi ≤ w.heap.size) :
    Calls Tryz.prog 9 #[.agg #[.int .i64 N, v]] w fun e w' => e = .returned (.tuple #[.int .i64 (covH N L : Int), .int .i64 (covA N L : Int)]) ∧ Below w.heap.size w w' := by
  obtain ⟨ad, cp, rfl⟩ := hr.slice
  have HG := Lib.hid (Gx.start (N := N) hr hh)
  clear hr
  go_enter Tryz.func9, Tryz.ntmps9
  go_wp2_with fail
  go_at_call 34
  refine (survey_any w.heap.size N lo hi n _ L 0 0 0 _ [] _ hL HG.out.row HG.out.hi (Row.empty _ _ _ _ _ _) (Nat.zero_le _) (by omega) hh).mono ?_
  rintro e w1 ⟨b1, hcase⟩
  have H1 := Lib.hid (HG.out.grow b1)
  clear b1
  rcases hcase with ⟨hg, rfl⟩ | ⟨hg, X, rfl, hX, hS, hE⟩
  · have HH : Hid (covH N L = 0) := by show _ = _; unfold covH; rw [hg, if_neg (by decide)]
    have HA : Hid (covA N L = 0) := by show _ = _; unfold covA; rw [hg, if_neg (by decide)]
    clear hg
    go_wp2
    refine bodyPost_ret (v := .tuple #[.int .i64 0, .int .i64 0]) (by simp [results, Tryz.results9, go_sem]) rfl ⟨by rw [HH.out, HA.out]; rfl, H1.out.below⟩
  · have HK := Lib.hid (g10_gok hg)
    have HPR := Lib.hid (g10_pair hg)
    obtain ⟨M, rfl⟩ : ∃ M : Nat, N = (M : Int) := ⟨N.toNat, by have := (gok_parts HK.out).1; omega⟩
    rw [Int.toNat_natCast] at hS
    simp only [World.size_alloc] at hX
    have hM10 : M ≤ 10 := by have := (gok_parts HK.out).2.1; omega
    have HH : Hid (covH (M : Int) L = cntB (okB (M : Int) L M) (M * M)) := by show _ = _; unfold covH; rw [hg, if_pos rfl, Int.toNat_natCast]
    have HA : Hid (covA (M : Int) L = cntB (prB (M : Int) L M) (M * M)) := by show _ = _; unfold covA; rw [hg, if_pos rfl, Int.toNat_natCast]
    have HS : Hid (Kx X M L w1 w1) := Kx.refl hS
    have hX1 : X < w1.heap.size := hS.lt
    have c0 := H1.out.c0
    have c1 := H1.out.c1
    clear hg hS hE
    go_wp2_with fail
    go_loopw [6, 19] (fun z i wr => ∃ s : Nat, s ≤ M ∧ i = .int .i64 (s : Int) ∧ z = .complex .f64 (fb (cntB (okB (M : Int) L M) (s * M))) (fb (cntB (prB (M : Int) L M) (s * M))) ∧ Hid (Kx X M L w1 wr)) (fun _ i _ => M - (intOf i).toNat)
    case atStart => exact ⟨0, Nat.zero_le _, rfl, by rw [Nat.zero_mul]; rfl, HS⟩
    case round =>
      clear c0 c1
      obtain ⟨s, hs, rfl, rfl, hK⟩ := hrel
      have HGr := Lib.hid (Gb.keep H1.out hK.out.but (by omega))
      have c0 := HGr.out.c0
      have c1 := HGr.out.c1
      have hq := sq_le (d := 0) hs hM10 (Nat.zero_le _)
      by_cases hlt0 : s < M
      · have q0 : (s : Int) < (M : Int) := by omega
        go_wp2_with fail
        go_at_call 35
        refine (iht_any (M : Int) lo hi n _ L (s : Int) _ hL HGr.out.row HGr.out.hi).mono ?_
        rintro e w2 ⟨tv, rfl, vs, bs, hss⟩
        have hx : ndB (M : Int) (s : Int) = true := by unfold ndB; rw [inB_iff]; omega
        rw [htN_yes HK.out hx] at hss
        have hXr : X < wr.heap.size := Nat.lt_of_lt_of_le hX1 hK.out.but.size
        have HSS := Lib.hid hss
        have HK2 := Lib.hid (hK.out.trans hX1 (Kx.of hK.out.sv hss.below))
        obtain ⟨gt, ct, rfl, hgt1, hgt2⟩ := hss.row.form (by omega)
        clear hss hx c0 c1 hK HGr
        go_wp2_with fail
        go_loopw [6, 26] (fun z i wy => ∃ d : Nat, d ≤ M ∧ i = .int .i64 (d : Int) ∧ z = .complex .f64 (fb (cntB (okB (M : Int) L M) (s * M + d))) (fb (cntB (prB (M : Int) L M) (s * M + d))) ∧ Hid (Kx X M L w2 wy)) (fun _ i _ => M - (intOf i).toNat)
        case atStart => exact ⟨0, Nat.zero_le _, rfl, rfl, Kx.refl HK2.out.sv⟩
        case round =>
          obtain ⟨d, hd, rfl, rfl, hK⟩ := hrel
          have hb1 := cntB_le (okB (M : Int) L M) (s * M + d)
          have hb2 := cntB_le (prB (M : Int) L M) (s * M + d)
          by_cases hlt : d < M
          · have q1 : (d : Int) < (M : Int) := by omega
            have p1 : (0 : Int) ≤ (d : Int) := by omega
            have hq2 := sq_lt hlt0 hM10 hlt
            have hin := HSS.out.inner d hlt
            have y0 : wr.cell? ⟨gt, d, none⟩ = some (vs d) := by
              rw [hK.out.but.cell hgt2 (by omega), HSS.out.row.cellAt d (by omega)]
              simp [hlt]
            have hlen := hops_len (M : Int) L (s : Int) (d : Int)
            obtain ⟨ZZ, hZZ⟩ : ∃ Z, Z = hopsL (M : Int) L (s : Int) (d : Int) := ⟨_, rfl⟩
            have HOP := Lib.hid hZZ.symm
            have hrow : Row 1 w2 (bs d).1 (bs d).2 (vs d) ZZ.length ZZ := by
              have h := hin.1
              unfold htZ at h
              rw [← hZZ] at h
              exact h
            rw [← hZZ] at hlen
            obtain ⟨az, cz, hv⟩ := hrow.slice
            rw [hv] at y0 hrow
            clear hZZ hv
            rcases ZZ with _ | ⟨f, Z⟩
            · have HNA := Lib.hid (cnt_no (p := (prB (M : Int) L M)) (u := s * M + d) (by rw [prB_at hlt, HOP.out]; rfl))
              have HNO := Lib.hid (cnt_no (p := (okB (M : Int) L M)) (u := s * M + d) (by rw [okB_at hlt, HOP.out]; rfl))
              clear hrow hin
              go_wp2_with fail
              go_roundw
              case rel => exact ⟨d + 1, by omega, by go_num, by rw [← Nat.add_assoc, HNO.out, HNA.out], hK⟩
              case measure => simp [intOf]; omega
            · obtain ⟨gz, cg, e1, hg1, hgz, hcell⟩ := row_cells (by simp) hrow
              cases e1
              have hnr := hop_near HK.out (f := f) (s := s) (d := d) (by rw [HOP.out]; exact List.mem_cons_self ..)
              obtain ⟨f', rfl⟩ : ∃ q : Nat, f = (q : Int) := ⟨f.toNat, by omega⟩
              have hrep : repB (M : Int) L (s : Int) (f' : Int) (d : Int) = true := by
                unfold repB
                rw [g10_of HK.out HPR.out (fun y hy => by simp at hy; rcases hy with rfl | rfl | rfl <;> omega), hnr.2]
                rfl
              have hgl : gz < w2.heap.size := by omega
              have y1 : wr.cell? ⟨gz, 0, none⟩ = some (.int .i64 (f' : Int)) := by rw [hK.out.but.cell hgl (by omega)]; exact hcell 0 _ rfl
              have HPA := Lib.hid (cnt_yes (p := (prB (M : Int) L M)) (u := s * M + d) (by rw [prB_at hlt, HOP.out]; rfl))
              have HT := Lib.hid (tally_any X M s f' d L _ hK.out.sv hlt0 hlt hrep)
              have hX2 : X < w2.heap.size := HK2.out.sv.lt
              have z9 : decide ((Z.length : Int) + 1 > 0) = true := decide_eq_true (by omega)
              have z8 : (0 : Int) < (Z.length : Int) + 1 := by omega
              clear hrow hin hcell hrep hnr
              unfold rpV at HT
              by_cases a1 : 0 ≤ bstL (M : Int) L (s : Int) (f' : Int) (d : Int)
              · rw [if_pos a1] at HT
                have HN := Lib.hid (cnt_yes (p := (okB (M : Int) L M)) (u := s * M + d) (by rw [okB_at hlt, HOP.out]; show (decide ((f' : Int) :: Z ≠ []) && decide (0 ≤ bstL (M : Int) L (s : Int) (f' : Int) (d : Int))) = true; rw [decide_eq_true a1]; rfl))
                have hsum := csum_one (h := cntB (okB (M : Int) L M) (s * M + d)) (a := cntB (prB (M : Int) L M) (s * M + d)) (by omega) (by omega)
                clear a1
                go_wp2_with fail
                go_at_call 36
                refine HT.out.mono ?_
                rintro e w4 ⟨rfl, k4⟩
                have K4 := Lib.hid (hK.out.trans hX2 k4)
                clear k4 HT hK
                go_wp2_with fail
                go_roundw
                case rel => exact ⟨d + 1, by omega, by go_num, by rw [← Nat.add_assoc, HN.out, HPA.out], K4⟩
                case measure => simp [intOf]; omega
              · rw [if_neg a1] at HT
                have HN := Lib.hid (cnt_no (p := (okB (M : Int) L M)) (u := s * M + d) (by rw [okB_at hlt, HOP.out]; show (decide ((f' : Int) :: Z ≠ []) && decide (0 ≤ bstL (M : Int) L (s : Int) (f' : Int) (d : Int))) = false; rw [decide_eq_false a1]; rfl))
                have hsum := csum_zero (h := cntB (okB (M : Int) L M) (s * M + d)) (a := cntB (prB (M : Int) L M) (s * M + d)) (by omega) (by omega)
                clear a1
                go_wp2_with fail
                go_at_call 36
                refine HT.out.mono ?_
                rintro e w4 ⟨rfl, k4⟩
                have K4 := Lib.hid (hK.out.trans hX2 k4)
                clear k4 HT hK
                go_wp2_with fail
                go_roundw
                case rel => exact ⟨d + 1, by omega, by go_num, by rw [← Nat.add_assoc, HN.out, HPA.out], K4⟩
                case measure => simp [intOf]; omega
          · have hge : ¬ ((d : Int) < (M : Int)) := by omega
            obtain rfl : d = M := by omega
            have K5 := Lib.hid (HK2.out.trans hX1 hK.out)
            go_wp2_with fail
            go_roundw
            case rel => exact ⟨s + 1, by omega, by go_num, by rw [Nat.succ_mul], K5⟩
            case measure => simp [intOf]; omega
      · have hge : ¬ ((s : Int) < (M : Int)) := by omega
        obtain rfl : s = M := by omega
        have hb1 := cntB_le (okB (s : Int) L s) (s * s)
        have hb2 := cntB_le (prB (s : Int) L s) (s * s)
        have hc1 := cint (k := cntB (okB (s : Int) L s) (s * s)) (by omega)
        have hc2 := cint (k := cntB (prB (s : Int) L s) (s * s)) (by omega)
        go_wp2_with fail
        refine bodyPost_ret (v := .tuple #[.int .i64 (cntB (okB (s : Int) L s) (s * s) : Int), .int .i64 (cntB (prB (s : Int) L s) (s * s) : Int)]) (by simp [results, Tryz.results9, go_sem]) rfl ⟨by rw [HH.out, HA.out], HGr.out.below⟩

end Go.Proofs.YtnpdbieadjgghaaGreat
