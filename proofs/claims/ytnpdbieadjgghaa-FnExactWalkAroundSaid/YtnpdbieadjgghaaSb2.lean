/- BestAlternate of the model. -/
import Derived.Test.YtnpdbieadjgghaaSt2
namespace Go.Proofs.Ytnpdbieadjgghaa
open Go.RowKit

set_option maxRecDepth 100000 in
set_option maxHeartbeats 4000000 in
theorem sbest_any (N : Int) (lo hi n : Nat) (v : Value) (L : List Ed) (s f d : Int) (w : World) (hL : L.length = n) (hr : Row 3 w lo hi v n (flat L)) (hh : hi ≤ w.heap.size) :
    Calls Try.prog 23 #[.agg #[.int .i64 N, v], .int .i64 s, .int .i64 f, .int .i64 d] w fun e w' => e = .returned (.int .i64 (bstL N L s f d)) ∧ Below w.heap.size w w' := by
  obtain ⟨ad, cp, rfl⟩ := hr.slice
  have HG := Lib.hid (Gx.start (N := N) hr hh)
  clear hr
  go_enter Try.func23, Try.ntmps23
  go_wp2_with fail
  go_at_call 17
  refine (salt_any N lo hi n _ L s f d _ hL HG.out.row HG.out.hi).mono ?_
  rintro e v1 ⟨rv, rfl, hrow, b1⟩
  have H1 := Lib.hid (HG.out.grow b1)
  clear b1
  have HBV : Hid (bstL N L s f d = (pickS (fun n => cst L s n + dsT N L n d) (altL N L s f d) (-1, 0)).1) := by show _ = _; rfl
  have HMEM : Hid (∀ x ∈ altL N L s f d, ∃ M s' x' d' : Nat, N = (M : Int) ∧ s = (s' : Int) ∧ x = (x' : Int) ∧ d = (d' : Int) ∧ gok (M : Int) L = true ∧ s' < M ∧ x' < M ∧ d' < M ∧ s ≠ x) := fun x hx => by
    unfold altL at hx
    split at hx
    · rename_i hrep
      obtain ⟨hG, hp, hs1, hf1, hd1, hc⟩ := repB_parts hrep
      have hm := nodesL_mem.1 hx
      refine ⟨N.toNat, s.toNat, x.toNat, d.toNat, by omega, by omega, by omega, by omega, by rw [show ((N.toNat : Nat) : Int) = N by omega]; exact hG, by omega, by omega, by omega, fun e => ?_⟩
      have h2 := hm.2
      unfold altB at h2
      rw [Bool.and_eq_true] at h2
      exact ((nearB_iff hG).1 ((lfB_iff hG hs1 hm.1).1 h2.2).2.1).1 e
    · cases hx
  have hlen : (altL N L s f d).length ≤ 10 := by
    by_cases hrep : repB N L s f d = true
    · have hN := gok_parts (repB_parts hrep).1
      unfold altL
      rw [if_pos hrep]
      obtain ⟨M, rfl⟩ : ∃ M : Nat, N = (M : Int) := ⟨N.toNat, by omega⟩
      rw [firstN_nodes]
      exact Nat.le_trans (firstN_len _ _) (by omega)
    · unfold altL
      rw [if_neg hrep]
      simp
  generalize altL N L s f d = Z at *
  obtain ⟨az, cz, rfl, hzn, hzc⟩ := hrow.opened
  have HZC := Lib.hid hzc
  obtain ⟨m, hm⟩ : ∃ m, m = Z.length := ⟨_, rfl⟩
  have HZL := Lib.hid hm
  rw [← hm] at hlen HZC ⊢
  clear hrow hzn hzc hm
  go_wp2_with fail
  go_loopw [10, 11, 12] (fun b c i wr => ∃ (k : Nat) (bb cc : Int), k ≤ m ∧ i = .int .i64 (k : Int) ∧ b = .int .i64 bb ∧ c = .int .i64 cc ∧ Hid (Gx w wr N ad n cp lo hi L) ∧ Hid (Below v1.heap.size v1 wr) ∧ Hid (pickS (fun n => cst L s n + dsT N L n d) (Z.take k) (-1, 0) = (bb, cc))) (fun _ _ i _ => m - (intOf i).toNat)
  case atStart => exact ⟨0, -1, 0, Nat.zero_le _, rfl, rfl, rfl, H1, Below.refl _ _, rfl⟩
  case round =>
    obtain ⟨k, bb, cc, hk, rfl, rfl, rfl, hR, HB1, HP⟩ := hrel
    have c0 := hR.out.c0
    have c1 := hR.out.c1
    by_cases hlt : k < m
    · obtain ⟨gz, rfl, hgz, hcell⟩ := HZC.out (by omega)
      obtain ⟨x, hxk⟩ : ∃ x, Z[k]? = some x := ⟨Z[k]'(by rw [← HZL.out]; exact hlt), List.getElem?_eq_getElem _⟩
      have hgr : gz < wr.heap.size := by have := HB1.out.size; omega
      have y0 : wr.cell? ⟨gz, k, none⟩ = some (.int .i64 x) := by rw [HB1.out.cell (p := ⟨gz, k, none⟩) (by show gz < _; omega)]; exact hcell _ _ hxk
      have q0 : (0 : Int) ≤ (k : Int) := by omega
      have q1 : (k : Int) < (m : Int) := by omega
      have HT : Hid (Z.take (k + 1) = Z.take k ++ [x]) := by show _ = _; rw [List.take_add_one, hxk]; rfl
      have hE : (∀ w lo hi n v, L.length = n → Row 3 w lo hi v n (flat L) → hi ≤ w.heap.size → Calls Try.prog 63 #[.agg #[.int .i64 N, v], .int .i64 s, .int .i64 x] w fun e w' => e = .returned (.int .i64 (cst L s x)) ∧ Below w.heap.size w w') ∧ (∀ w lo hi n v, L.length = n → Row 3 w lo hi v n (flat L) → hi ≤ w.heap.size → Calls Try.prog 54 #[.agg #[.int .i64 N, v], .int .i64 x, .int .i64 d] w fun e w' => e = .returned (.int .i64 (dsT N L x d)) ∧ Below w.heap.size w w') ∧ (1 ≤ cst L s x ∧ cst L s x ≤ 1000000) ∧ (0 ≤ dsT N L x d ∧ dsT N L x d ≤ 1000000) := by
        obtain ⟨M, s', x', d', rfl, rfl, rfl, rfl, hG, hsM, hxM, hdM, hne⟩ := HMEM.out x (List.mem_of_getElem? hxk)
        exact ⟨fun w lo hi n v hL hr hh => by rw [← scost_cst hG hne]; exact scost_any (M : Int) lo hi n v L _ _ w hG hL hr hh, fun w lo hi n v hL hr hh => sdst_any M lo hi n v L x' d' w hG hL hr hh hxM hdM, cst_bound hG _ _, dsT_in hG hxM _⟩
      obtain ⟨h1, h2, g1, g2⟩ := hE
      have E1 := Lib.hid h1
      have E2 := Lib.hid h2
      obtain ⟨p1, hp1⟩ : ∃ q, q = cst L s x := ⟨_, rfl⟩
      obtain ⟨p2, hp2⟩ : ∃ q, q = dsT N L x d := ⟨_, rfl⟩
      rw [← hp1] at g1 E1
      rw [← hp2] at g2 E2
      have u1 : IntKind.i64.wrap (p1 + p2) = p1 + p2 := by rw [IntKind.wrap_i64]; omega
      have HE1 := Lib.hid hp1
      have HE2 := Lib.hid hp2
      clear h1 h2 hcell hxk hp1 hp2 g1 g2 HMEM
      go_wp2_with fail
      refine wp_region_held_drew (S := (fun w' => w'.cell? ⟨w.heap.size, 0, none⟩ = some (.int .i64 N) ∧ w'.cell? ⟨w.heap.size, 1, none⟩ = some (.slice ad n cp) ∧ w'.cell? ⟨gz, k, none⟩ = some (.int .i64 x) ∧ Hid (Gx w w' N ad n cp lo hi L) ∧ Hid (Below wr.heap.size wr w'))) (by kernel_rfl) ?_ (fun hHeld => ?_)
      · exact ⟨c0, c1, y0, Lib.hid hR.out.drew, Lib.hid ((Below.refl _ _).drew)⟩
      refine step_read 0 25 rfl rfl (by kernel_rfl) (by kernel_rfl) (by kernel_rfl) (fun _ _ _ h => h) (by rfl) (v := ?_) (fun w hSw => ?_) (by assumption) ?_; rotate_left; (focus ((try dsimp only at hSw); go_simp; first | done | exact rfl)); simp only [List.set]
      refine step_read 1 26 rfl rfl (by kernel_rfl) (by kernel_rfl) (by kernel_rfl) (fun _ _ _ h => h) (by rfl) (v := ?_) (fun w hSw => ?_) (by assumption) ?_; rotate_left; (focus ((try dsimp only at hSw); go_simp; first | done | exact rfl)); simp only [List.set]
      refine step_read 2 27 rfl rfl (by kernel_rfl) (by kernel_rfl) (by kernel_rfl) (fun _ _ _ h => h) (by rfl) (v := ?_) (fun w hSw => ?_) (by assumption) ?_; rotate_left; (focus ((try dsimp only at hSw); go_simp; first | done | exact rfl)); simp only [List.set]
      refine step_read 3 28 rfl rfl (by kernel_rfl) (by kernel_rfl) (by kernel_rfl) (fun _ _ _ h => h) (by rfl) (v := ?_) (fun w hSw => ?_) (by assumption) ?_; rotate_left; (focus ((try dsimp only at hSw); go_simp; first | done | exact rfl)); simp only [List.set]
      refine step_read 4 29 rfl rfl (by kernel_rfl) (by kernel_rfl) (by kernel_rfl) (fun _ _ _ h => h) (by rfl) (v := ?_) (fun w hSw => ?_) (by assumption) ?_; rotate_left; (focus ((try dsimp only at hSw); go_simp; first | done | exact rfl)); simp only [List.set]
      refine step_read 5 30 rfl rfl (by kernel_rfl) (by kernel_rfl) (by kernel_rfl) (fun _ _ _ h => h) (by rfl) (v := ?_) (fun w hSw => ?_) (by assumption) ?_; rotate_left; (focus ((try dsimp only at hSw); go_simp; first | done | exact rfl)); simp only [List.set]
      refine step_read 7 32 rfl rfl (by kernel_rfl) (by kernel_rfl) (by kernel_rfl) (fun _ _ _ h => h) (by rfl) (v := ?_) (fun w hSw => ?_) (by assumption) ?_; rotate_left; (focus ((try dsimp only at hSw); go_simp; first | done | exact rfl)); simp only [List.set]
      refine step_read 8 33 rfl rfl (by kernel_rfl) (by kernel_rfl) (by kernel_rfl) (fun _ _ _ h => h) (by rfl) (v := ?_) (fun w hSw => ?_) (by assumption) ?_; rotate_left; (focus ((try dsimp only at hSw); go_simp; first | done | exact rfl)); simp only [List.set]
      refine step_read 9 34 rfl rfl (by kernel_rfl) (by kernel_rfl) (by kernel_rfl) (fun _ _ _ h => h) (by rfl) (v := ?_) (fun w hSw => ?_) (by assumption) ?_; rotate_left; (focus ((try dsimp only at hSw); go_simp; first | done | exact rfl)); simp only [List.set]
      refine step_read 10 35 rfl rfl (by kernel_rfl) (by kernel_rfl) (by kernel_rfl) (fun _ _ _ h => h) (by rfl) (v := ?_) (fun w hSw => ?_) (by assumption) ?_; rotate_left; (focus ((try dsimp only at hSw); go_simp; first | done | exact rfl)); simp only [List.set]
      refine step_read 11 36 rfl rfl (by kernel_rfl) (by kernel_rfl) (by kernel_rfl) (fun _ _ _ h => h) (by rfl) (v := ?_) (fun w hSw => ?_) (by assumption) ?_; rotate_left; (focus ((try dsimp only at hSw); go_simp; first | done | exact rfl)); simp only [List.set]
      refine step_read 12 37 rfl rfl (by kernel_rfl) (by kernel_rfl) (by kernel_rfl) (fun _ _ _ h => h) (by rfl) (v := ?_) (fun w hSw => ?_) (by assumption) ?_; rotate_left; (focus ((try dsimp only at hSw); go_simp; first | done | exact rfl)); simp only [List.set]
      refine wpAnyH_ready (rs := [6]) (by kernel_rfl) (by simp) ?_
      refine AllReadyH.cons rfl (fun Kc hK => ?_) (AllReadyH.nil)
      go_simp
      go_at_call 63
      refine (E1.out _ lo hi n _ hL hHeld.2.2.2.1.out.row hHeld.2.2.2.1.out.hi).mono ?_
      rintro e w31 ⟨rfl, b31⟩
      have Hh31 := Lib.hid hHeld
      have B31 := Lib.hid b31
      clear hHeld b31
      refine hK.out _ _ ?_ (fun hHeld => ?_)
      · exact ⟨by rw [B31.out.cell (p := ⟨w.heap.size, 0, none⟩) Hh31.out.2.2.2.1.out.lt]; exact Hh31.out.1, by rw [B31.out.cell (p := ⟨w.heap.size, 1, none⟩) Hh31.out.2.2.2.1.out.lt]; exact Hh31.out.2.1, by rw [B31.out.cell (p := ⟨gz, k, none⟩) (by have := Hh31.out.2.2.2.2.out.size; show gz < _; exact Nat.lt_of_lt_of_le hgr this)]; exact Hh31.out.2.2.1, Hh31.out.2.2.2.1.out.grow B31.out, Hh31.out.2.2.2.2.out.trans (B31.out.mono Hh31.out.2.2.2.2.out.size)⟩
      clear hK Kc
      refine wpAnyH_ready (rs := [13]) (by kernel_rfl) (by simp) ?_
      refine AllReadyH.cons rfl (fun Kc hK => ?_) (AllReadyH.nil)
      go_simp
      go_at_call 54
      refine (E2.out _ lo hi n _ hL hHeld.2.2.2.1.out.row hHeld.2.2.2.1.out.hi).mono ?_
      rintro e w38 ⟨rfl, b38⟩
      have Hh38 := Lib.hid hHeld
      have B38 := Lib.hid b38
      clear hHeld b38
      refine hK.out _ _ ?_ (fun hHeld => ?_)
      · exact ⟨by rw [B38.out.cell (p := ⟨w.heap.size, 0, none⟩) Hh38.out.2.2.2.1.out.lt]; exact Hh38.out.1, by rw [B38.out.cell (p := ⟨w.heap.size, 1, none⟩) Hh38.out.2.2.2.1.out.lt]; exact Hh38.out.2.1, by rw [B38.out.cell (p := ⟨gz, k, none⟩) (by have := Hh38.out.2.2.2.2.out.size; show gz < _; exact Nat.lt_of_lt_of_le hgr this)]; exact Hh38.out.2.2.1, Hh38.out.2.2.2.1.out.grow B38.out, Hh38.out.2.2.2.2.out.trans (B38.out.mono Hh38.out.2.2.2.2.out.size)⟩
      clear hK Kc
      refine step_read 14 39 rfl rfl (by kernel_rfl) (by kernel_rfl) (by kernel_rfl) (fun _ _ _ h => h) (by rfl) (v := ?_) (fun w hSw => ?_) (by assumption) ?_; rotate_left; (focus ((try dsimp only at hSw); go_simp; first | done | exact rfl)); simp only [List.set]
      refine step_read 15 13 rfl rfl (by kernel_rfl) (by kernel_rfl) (by kernel_rfl) (fun _ _ _ h => h) (by rfl) (v := ?_) (fun w hSw => ?_) (by assumption) ?_; rotate_left; (focus ((try dsimp only at hSw); go_simp; first | done | exact rfl)); simp only [List.set]
      refine wpAnyH_done (by kernel_rfl) ?_ _
      have y9 := hHeld.2.2.1
      have H3 := Lib.hid hHeld.2.2.2
      clear hHeld
      by_cases a1 : bb < 0
      · have z1 : decide (bb < 0) = true := decide_eq_true a1
        have HN : Hid (pickS (fun n => cst L s n + dsT N L n d) (Z.take (k + 1)) (-1, 0) = (x, p1 + p2)) := by show _ = _; rw [HT.out, pickS_snoc, HP.out, if_pos (.inl a1)]; show (x, _) = _; rw [HE1.out, HE2.out]
        clear a1
        go_wp2_with fail
        go_roundw
        case rel => exact ⟨k + 1, x, p1 + p2, by omega, by go_num, rfl, rfl, H3.out.1, HB1.out.trans (H3.out.2.out.mono HB1.out.size), HN⟩
        case measure => simp [intOf]; omega
      · have z1 : decide (bb < 0) = false := decide_eq_false a1
        by_cases a2 : p1 + p2 < cc
        · have z2 : decide (p1 + p2 < cc) = true := decide_eq_true a2
          have HN : Hid (pickS (fun n => cst L s n + dsT N L n d) (Z.take (k + 1)) (-1, 0) = (x, p1 + p2)) := by show _ = _; rw [HT.out, pickS_snoc, HP.out, if_pos (.inr (by show cst L s x + dsT N L x d < cc; rw [← HE1.out, ← HE2.out]; exact a2))]; show (x, _) = _; rw [HE1.out, HE2.out]
          clear a1 a2
          go_wp2_with fail
          go_roundw
          case rel => exact ⟨k + 1, x, p1 + p2, by omega, by go_num, rfl, rfl, H3.out.1, HB1.out.trans (H3.out.2.out.mono HB1.out.size), HN⟩
          case measure => simp [intOf]; omega
        · have z2 : decide (p1 + p2 < cc) = false := decide_eq_false a2
          have HN : Hid (pickS (fun n => cst L s n + dsT N L n d) (Z.take (k + 1)) (-1, 0) = (bb, cc)) := by show _ = _; rw [HT.out, pickS_snoc, HP.out, if_neg (fun h => h.elim a1 (fun h => a2 (by rw [HE1.out, HE2.out]; exact h)))]
          clear a1 a2
          go_wp2_with fail
          go_roundw
          case rel => exact ⟨k + 1, bb, cc, by omega, by go_num, rfl, rfl, H3.out.1, HB1.out.trans (H3.out.2.out.mono HB1.out.size), HN⟩
          case measure => simp [intOf]; omega
    · have hge : ¬ ((k : Int) < (m : Int)) := by omega
      obtain rfl : k = m := by omega
      have HV : Hid ((pickS (fun n => cst L s n + dsT N L n d) Z (-1, 0)).1 = bb) := by
        show _ = _
        have e : Z.take k = Z := List.take_of_length_le (by rw [← HZL.out]; exact Nat.le_refl _)
        have h := HP.out
        rw [e] at h
        rw [h]
      go_wp2_with fail
      go_ret
      exact ⟨by rw [HBV.out, HV.out]; rfl, hR.out.below⟩

end Go.Proofs.Ytnpdbieadjgghaa
