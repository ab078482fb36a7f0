/- GraphOk of the program as a contract: a graph with edges. -/
import Derived.Test.YtjenjdhoblcohaaW2
import Derived.Test.YtjenjdhoblcohaaReg
namespace Go.Proofs.Ytjenjdhoblcohaa
open Go.RowKit


theorem grel_out {w w1 : World} {R : Nat} {v0 v1 : Value} {Q : Prop} (h : w1.cell? ⟨w.heap.size, 0, none⟩ = some v0 ∧ w1.cell? ⟨w.heap.size, 1, none⟩ = some v1 ∧ Q) (h' : R < w1.heap.size ∧ Below w.heap.size w w1) (hR : w.heap.size ≤ R) : w1.cell? ⟨w.heap.size, 0, none⟩ = some v0 ∧ w1.cell? ⟨w.heap.size, 1, none⟩ = some v1 ∧ w.heap.size < w1.heap.size ∧ Below w.heap.size w w1 := ⟨h.1, h.2.1, by omega, h'.2⟩

set_option maxRecDepth 100000 in
set_option maxHeartbeats 4000000 in
theorem igok_some (N : Int) (g n cap : Nat) (L : List Ed) (w : World) (hN1 : 1 ≤ N) (hN2 : N ≤ 10) (hn : L.length = n) (h60 : n ≤ 60) (hg : g < w.heap.size) (h : ∀ q z, (flat L)[q]? = some z → w.cell? ⟨g, q, none⟩ = some (.int .i64 z)) :
    Calls Try.prog 51 #[.agg #[.int .i64 N, .slice (some ⟨g, 0, none⟩) n cap]] w fun e w' => e = .returned (.bool (gok N L)) ∧ Below w.heap.size w w' := by
  have Hn := Lib.hid hn
  have H := Lib.hid h
  clear h hn
  have hl1 : decide (N < 1) = false := decide_eq_false (by omega)
  have hl2 : decide (10 < N) = false := decide_eq_false (by omega)
  go_enter Try.func51, Try.ntmps51
  go_wp2
  go_loopw [22] (fun i wr => ∃ k : Nat, k ≤ n ∧ i = .int .i64 (k : Int) ∧ Hid (GRel w wr N (.slice (some ⟨g, 0, none⟩) n cap) L k)) (fun i _ => n - (intOf i).toNat)
  case atStart => exact ⟨0, Nat.zero_le _, rfl, fun j hj => absurd hj (Nat.not_lt_zero _), by simp, by simp, by simp, by go_grown⟩
  case round =>
    obtain ⟨k, hk, rfl, hR⟩ := hrel
    have k0 := hR.out.2.1
    have k1 := hR.out.2.2.1
    have hsz := hR.out.2.2.2.1
    have hB := hR.out.2.2.2.2
    have HB := Lib.hid hB
    by_cases hlt : k < n
    · obtain ⟨r, hr⟩ : ∃ r, L[k]? = some r := ⟨L[k]'(by rw [Hn.out]; exact hlt), List.getElem?_eq_getElem _⟩
      obtain ⟨a, b, c⟩ := r
      obtain ⟨r0, r1, r2⟩ := flat_at L k _ hr
      have HL : Hid (L[k]? = some (a, b, c)) := hr
      have z0 : wr.cell? ⟨g, k * 3, none⟩ = some (.int .i64 a) := by rw [hB.cell (p := ⟨g, k * 3, none⟩) hg]; exact H.out _ _ r0
      have z1 : wr.cell? ⟨g, k * 3 + 1, none⟩ = some (.int .i64 b) := by rw [hB.cell (p := ⟨g, k * 3 + 1, none⟩) hg]; exact H.out _ _ r1
      have z2 : wr.cell? ⟨g, k * 3 + 2, none⟩ = some (.int .i64 c) := by rw [hB.cell (p := ⟨g, k * 3 + 2, none⟩) hg]; exact H.out _ _ r2
      have HO := Lib.hid hR.out.1
      have hgw : g < wr.heap.size := by omega
      have q0 : (0 : Int) ≤ (k : Int) := by omega
      have q1 : (k : Int) < (n : Int) := by omega
      clear r0 r1 r2 hr hB hR
      by_cases hp : eokB N a b c = true
      · by_cases hk0 : k = 0
        · have Hc : Hid (echk N L k = true) := by show echk N L k = true; rw [echk_at HL.out, hp, hk0]; rfl
          have d0 : decide (0 < k) = false := by rw [hk0]; decide
          have Hk0 := Lib.hid hk0
          clear hk0
          have hkk :  (wr.alloc (.cells #[.int .i64 a, .int .i64 b, .int .i64 c] 96)).cell? ⟨w.heap.size, 0, none⟩ = some (.int .i64 N) ∧ (wr.alloc (.cells #[.int .i64 a, .int .i64 b, .int .i64 c] 96)).cell? ⟨w.heap.size, 1, none⟩ = some (.slice (some ⟨g, 0, none⟩) n cap) ∧ (wr.alloc (.cells #[.int .i64 a, .int .i64 b, .int .i64 c] 96)).cell? ⟨wr.heap.size, 0, none⟩ = some (.int .i64 a) ∧ (wr.alloc (.cells #[.int .i64 a, .int .i64 b, .int .i64 c] 96)).cell? ⟨wr.heap.size, 1, none⟩ = some (.int .i64 b) ∧ (wr.alloc (.cells #[.int .i64 a, .int .i64 b, .int .i64 c] 96)).cell? ⟨wr.heap.size, 2, none⟩ = some (.int .i64 c) ∧ wr.heap.size < (wr.alloc (.cells #[.int .i64 a, .int .i64 b, .int .i64 c] 96)).heap.size ∧ Below w.heap.size w (wr.alloc (.cells #[.int .i64 a, .int .i64 b, .int .i64 c] 96)) := ⟨by rw [old_box (by omega)]; exact k0, by rw [old_box (by omega)]; exact k1, by simp, by simp, by simp, by simp, HB.out.alloc (by omega) _⟩
          go_wp2_with fail
          refine wp_region_held_drew (S := (fun w' => w'.cell? ⟨w.heap.size, 0, none⟩ = some (.int .i64 N) ∧ w'.cell? ⟨w.heap.size, 1, none⟩ = some (.slice (some ⟨g, 0, none⟩) n cap) ∧ w'.cell? ⟨wr.heap.size, 0, none⟩ = some (.int .i64 a) ∧ w'.cell? ⟨wr.heap.size, 1, none⟩ = some (.int .i64 b) ∧ w'.cell? ⟨wr.heap.size, 2, none⟩ = some (.int .i64 c) ∧ wr.heap.size < w'.heap.size ∧ Below w.heap.size w w')) (by kernel_rfl) ?_ (fun hHeld => ?_)
          · (first | assumption | exact rk5_drew hkk | exact rk5_drew (by assumption) | exact rk5_keep (by omega) (by omega) (by omega) (by omega) (by omega) (by omega) (by assumption) (by assumption))
          refine step_read 0 27 rfl rfl (by kernel_rfl) (by kernel_rfl) (by kernel_rfl) (fun _ _ _ h => h) (by rfl) (v := ?_) (fun w hSw => ?_) (by assumption) ?_; rotate_left; (focus ((try dsimp only at hSw); go_simp; first | done | exact rfl)); simp only [List.set]
          refine step_read 1 28 rfl rfl (by kernel_rfl) (by kernel_rfl) (by kernel_rfl) (fun _ _ _ h => h) (by rfl) (v := ?_) (fun w hSw => ?_) (by assumption) ?_; rotate_left; (focus ((try dsimp only at hSw); go_simp; first | done | exact rfl)); simp only [List.set]
          (refine wpAnyH_ready (rs := [2]) (by kernel_rfl) (by simp) ?_; refine AllReadyH.cons rfl (fun K hK => ?_) AllReadyH.nil; go_simp; (go_at_call 85; refine (edgeOk_any N _ _ _ a b c _).mono ?_; rw [hp]; rintro e w2 ⟨rfl, hb⟩); refine hK.out _ _ ?_ (fun hHeld => ?_); (focus ((first | assumption | exact rk5_drew hkk | exact rk5_drew (by assumption) | exact rk5_keep (by omega) (by omega) (by omega) (by omega) (by omega) (by omega) (by assumption) (by assumption)))); clear hK K)
          refine step_read 3 30 rfl rfl (by kernel_rfl) (by kernel_rfl) (by kernel_rfl) (fun _ _ _ h => h) (by rfl) (v := ?_) (fun w hSw => ?_) (by assumption) ?_; rotate_left; (focus ((try dsimp only at hSw); go_simp; first | done | exact rfl)); simp only [List.set]
          refine step_read 4 31 rfl rfl (by kernel_rfl) (by kernel_rfl) (by kernel_rfl) (fun _ _ _ h => h) (by rfl) (v := ?_) (fun w hSw => ?_) (by assumption) ?_; rotate_left; (focus ((try dsimp only at hSw); go_simp; first | done | exact rfl)); simp only [List.set]
          refine step_read 5 32 rfl rfl (by kernel_rfl) (by kernel_rfl) (by kernel_rfl) (fun _ _ _ h => h) (by rfl) (v := ?_) (fun w hSw => ?_) (by assumption) ?_; rotate_left; (focus ((try dsimp only at hSw); go_simp; first | done | exact rfl)); simp only [List.set]
          refine step_read 6 33 rfl rfl (by kernel_rfl) (by kernel_rfl) (by kernel_rfl) (fun _ _ _ h => h) (by rfl) (v := ?_) (fun w hSw => ?_) (by assumption) ?_; rotate_left; (focus ((try dsimp only at hSw); go_simp; first | done | exact rfl)); simp only [List.set]
          refine step_read 7 34 rfl rfl (by kernel_rfl) (by kernel_rfl) (by kernel_rfl) (fun _ _ _ h => h) (by rfl) (v := ?_) (fun w hSw => ?_) (by assumption) ?_; rotate_left; (focus ((try dsimp only at hSw); go_simp; first | done | exact rfl)); simp only [List.set]
          refine step_skip 8 35 rfl rfl (by kernel_rfl) (by kernel_rfl) (by kernel_rfl) (fun _ _ _ h => h) (by rfl) (by assumption) ?_; simp only [List.set]
          refine step_skip 9 36 rfl rfl (by kernel_rfl) (by kernel_rfl) (by kernel_rfl) (fun _ _ _ h => h) (by rfl) (by assumption) ?_; simp only [List.set]
          refine step_skip 10 37 rfl rfl (by kernel_rfl) (by kernel_rfl) (by kernel_rfl) (fun _ _ _ h => h) (by rfl) (by assumption) ?_; simp only [List.set]
          refine step_skip 11 38 rfl rfl (by kernel_rfl) (by kernel_rfl) (by kernel_rfl) (fun _ _ _ h => h) (by rfl) (by assumption) ?_; simp only [List.set]
          refine step_skip 12 39 rfl rfl (by kernel_rfl) (by kernel_rfl) (by kernel_rfl) (fun _ _ _ h => h) (by rfl) (by assumption) ?_; simp only [List.set]
          refine step_skip 13 40 rfl rfl (by kernel_rfl) (by kernel_rfl) (by kernel_rfl) (fun _ _ _ h => h) (by rfl) (by assumption) ?_; simp only [List.set]
          refine step_skip 14 41 rfl rfl (by kernel_rfl) (by kernel_rfl) (by kernel_rfl) (fun _ _ _ h => h) (by rfl) (by assumption) ?_; simp only [List.set]
          refine step_skip 15 42 rfl rfl (by kernel_rfl) (by kernel_rfl) (by kernel_rfl) (fun _ _ _ h => h) (by rfl) (by assumption) ?_; simp only [List.set]
          refine step_skip 16 43 rfl rfl (by kernel_rfl) (by kernel_rfl) (by kernel_rfl) (fun _ _ _ h => h) (by rfl) (by assumption) ?_; simp only [List.set]
          refine step_read 17 44 rfl rfl (by kernel_rfl) (by kernel_rfl) (by kernel_rfl) (fun _ _ _ h => h) (by rfl) (v := ?_) (fun w hSw => ?_) (by assumption) ?_; rotate_left; (focus ((try dsimp only at hSw); go_simp; first | done | exact rfl)); simp only [List.set]
          refine step_read 18 45 rfl rfl (by kernel_rfl) (by kernel_rfl) (by kernel_rfl) (fun _ _ _ h => h) (by rfl) (v := ?_) (fun w hSw => ?_) (by assumption) ?_; rotate_left; (focus ((try dsimp only at hSw); go_simp; first | done | exact rfl)); simp only [List.set]
          refine wpAnyH_done (by kernel_rfl) ?_ _
          go_wp2_with fail
          have hE := grel_out (by assumption) (rk5_out (by assumption)) (Nat.le_of_lt hsz)
          go_roundw
          case rel => exact ⟨k + 1, by omega, by go_num, GRel.next HO.out Hc.out hE.1 hE.2.1 hE.2.2.1 hE.2.2.2⟩
          case measure => simp [intOf]; omega
        · obtain ⟨m, hm⟩ : ∃ m, k = m + 1 := ⟨k - 1, by omega⟩
          obtain ⟨r', hr'⟩ : ∃ r, L[m]? = some r := ⟨L[m]'(by rw [Hn.out]; omega), List.getElem?_eq_getElem _⟩
          obtain ⟨a0, b0, d0⟩ := r'
          obtain ⟨r0, r1, r2⟩ := flat_at L m _ hr'
          have HL' : Hid (L[m]? = some (a0, b0, d0)) := hr'
          have z3 : wr.cell? ⟨g, m * 3, none⟩ = some (.int .i64 a0) := by rw [HB.out.cell (p := ⟨g, m * 3, none⟩) hg]; exact H.out _ _ r0
          have z4 : wr.cell? ⟨g, m * 3 + 1, none⟩ = some (.int .i64 b0) := by rw [HB.out.cell (p := ⟨g, m * 3 + 1, none⟩) hg]; exact H.out _ _ r1
          have z5 : wr.cell? ⟨g, m * 3 + 2, none⟩ = some (.int .i64 d0) := by rw [HB.out.cell (p := ⟨g, m * 3 + 2, none⟩) hg]; exact H.out _ _ r2
          clear r0 r1 r2 hr'
          have dk : decide (0 < k) = true := decide_eq_true (by omega)
          have dk1 : 0 < k := by omega
          have e1 : IntKind.i64.wrap ((k : Int) - 1) = (m : Int) := by rw [IntWalk.i64_in _ (by omega)]; omega
          have q2 : (0 : Int) ≤ (m : Int) := by omega
          have q3 : (m : Int) < (n : Int) := by omega
          have Hm := Lib.hid hm
          clear hm hk0
          have Hch : Hid (echk N L k = eahB a0 b0 a b) := by show echk N L k = _; rw [Hm.out, echk_prev (by rw [← Hm.out]; exact HL.out) HL'.out, hp]; rfl
          have hah := cmpP_ah a0 b0 a b
          by_cases ha : eahB a0 b0 a b = true
          · have Hc : Hid (echk N L k = true) := by show echk N L k = true; rw [Hch.out, ha]
            rw [ha] at hah
            simp only [Bool.not_true] at hah
            have hkk :  (wr.alloc (.cells #[.int .i64 a, .int .i64 b, .int .i64 c] 96)).cell? ⟨w.heap.size, 0, none⟩ = some (.int .i64 N) ∧ (wr.alloc (.cells #[.int .i64 a, .int .i64 b, .int .i64 c] 96)).cell? ⟨w.heap.size, 1, none⟩ = some (.slice (some ⟨g, 0, none⟩) n cap) ∧ (wr.alloc (.cells #[.int .i64 a, .int .i64 b, .int .i64 c] 96)).cell? ⟨wr.heap.size, 0, none⟩ = some (.int .i64 a) ∧ (wr.alloc (.cells #[.int .i64 a, .int .i64 b, .int .i64 c] 96)).cell? ⟨wr.heap.size, 1, none⟩ = some (.int .i64 b) ∧ (wr.alloc (.cells #[.int .i64 a, .int .i64 b, .int .i64 c] 96)).cell? ⟨wr.heap.size, 2, none⟩ = some (.int .i64 c) ∧ (wr.alloc (.cells #[.int .i64 a, .int .i64 b, .int .i64 c] 96)).cell? ⟨g, m * 3, none⟩ = some (.int .i64 a0) ∧ (wr.alloc (.cells #[.int .i64 a, .int .i64 b, .int .i64 c] 96)).cell? ⟨g, m * 3 + 1, none⟩ = some (.int .i64 b0) ∧ (wr.alloc (.cells #[.int .i64 a, .int .i64 b, .int .i64 c] 96)).cell? ⟨g, m * 3 + 2, none⟩ = some (.int .i64 d0) ∧ wr.heap.size < (wr.alloc (.cells #[.int .i64 a, .int .i64 b, .int .i64 c] 96)).heap.size ∧ Below w.heap.size w (wr.alloc (.cells #[.int .i64 a, .int .i64 b, .int .i64 c] 96)) := ⟨by rw [old_box (by omega)]; exact k0, by rw [old_box (by omega)]; exact k1, by simp, by simp, by simp, by rw [old_box (by omega)]; exact z3, by rw [old_box (by omega)]; exact z4, by rw [old_box (by omega)]; exact z5, by simp, HB.out.alloc (by omega) _⟩
            go_wp2_with fail
            refine wp_region_held_drew (S := (fun w' => w'.cell? ⟨w.heap.size, 0, none⟩ = some (.int .i64 N) ∧ w'.cell? ⟨w.heap.size, 1, none⟩ = some (.slice (some ⟨g, 0, none⟩) n cap) ∧ w'.cell? ⟨wr.heap.size, 0, none⟩ = some (.int .i64 a) ∧ w'.cell? ⟨wr.heap.size, 1, none⟩ = some (.int .i64 b) ∧ w'.cell? ⟨wr.heap.size, 2, none⟩ = some (.int .i64 c) ∧ w'.cell? ⟨g, m * 3, none⟩ = some (.int .i64 a0) ∧ w'.cell? ⟨g, m * 3 + 1, none⟩ = some (.int .i64 b0) ∧ w'.cell? ⟨g, m * 3 + 2, none⟩ = some (.int .i64 d0) ∧ wr.heap.size < w'.heap.size ∧ Below w.heap.size w w')) (by kernel_rfl) ?_ (fun hHeld => ?_)
            · (first | assumption | exact rk8_drew hkk | exact rk8_drew (by assumption) | exact rk8_keep (by omega) (by omega) (by omega) (by omega) (by omega) (by omega) (by omega) (by omega) (by omega) (by assumption) (by assumption))
            refine step_read 0 27 rfl rfl (by kernel_rfl) (by kernel_rfl) (by kernel_rfl) (fun _ _ _ h => h) (by rfl) (v := ?_) (fun w hSw => ?_) (by assumption) ?_; rotate_left; (focus ((try dsimp only at hSw); go_simp; first | done | exact rfl)); simp only [List.set]
            refine step_read 1 28 rfl rfl (by kernel_rfl) (by kernel_rfl) (by kernel_rfl) (fun _ _ _ h => h) (by rfl) (v := ?_) (fun w hSw => ?_) (by assumption) ?_; rotate_left; (focus ((try dsimp only at hSw); go_simp; first | done | exact rfl)); simp only [List.set]
            (refine wpAnyH_ready (rs := [2]) (by kernel_rfl) (by simp) ?_; refine AllReadyH.cons rfl (fun K hK => ?_) AllReadyH.nil; go_simp; (go_at_call 85; refine (edgeOk_any N _ _ _ a b c _).mono ?_; rw [hp]; rintro e w2 ⟨rfl, hb⟩); refine hK.out _ _ ?_ (fun hHeld => ?_); (focus ((first | assumption | exact rk8_drew hkk | exact rk8_drew (by assumption) | exact rk8_keep (by omega) (by omega) (by omega) (by omega) (by omega) (by omega) (by omega) (by omega) (by omega) (by assumption) (by assumption)))); clear hK K)
            refine step_read 3 30 rfl rfl (by kernel_rfl) (by kernel_rfl) (by kernel_rfl) (fun _ _ _ h => h) (by rfl) (v := ?_) (fun w hSw => ?_) (by assumption) ?_; rotate_left; (focus ((try dsimp only at hSw); go_simp; first | done | exact rfl)); simp only [List.set]
            refine step_read 4 31 rfl rfl (by kernel_rfl) (by kernel_rfl) (by kernel_rfl) (fun _ _ _ h => h) (by rfl) (v := ?_) (fun w hSw => ?_) (by assumption) ?_; rotate_left; (focus ((try dsimp only at hSw); go_simp; first | done | exact rfl)); simp only [List.set]
            refine step_read 5 32 rfl rfl (by kernel_rfl) (by kernel_rfl) (by kernel_rfl) (fun _ _ _ h => h) (by rfl) (v := ?_) (fun w hSw => ?_) (by assumption) ?_; rotate_left; (focus ((try dsimp only at hSw); go_simp; first | done | exact rfl)); simp only [List.set]
            refine step_read 6 33 rfl rfl (by kernel_rfl) (by kernel_rfl) (by kernel_rfl) (fun _ _ _ h => h) (by rfl) (v := ?_) (fun w hSw => ?_) (by assumption) ?_; rotate_left; (focus ((try dsimp only at hSw); go_simp; first | done | exact rfl)); simp only [List.set]
            refine step_read 7 34 rfl rfl (by kernel_rfl) (by kernel_rfl) (by kernel_rfl) (fun _ _ _ h => h) (by rfl) (v := ?_) (fun w hSw => ?_) (by assumption) ?_; rotate_left; (focus ((try dsimp only at hSw); go_simp; first | done | exact rfl)); simp only [List.set]
            refine step_read 8 35 rfl rfl (by kernel_rfl) (by kernel_rfl) (by kernel_rfl) (fun _ _ _ h => h) (by rfl) (v := ?_) (fun w hSw => ?_) (by assumption) ?_; rotate_left; (focus ((try dsimp only at hSw); go_simp; first | done | exact rfl)); simp only [List.set]
            refine step_read 9 36 rfl rfl (by kernel_rfl) (by kernel_rfl) (by kernel_rfl) (fun _ _ _ h => h) (by rfl) (v := ?_) (fun w hSw => ?_) (by assumption) ?_; rotate_left; (focus ((try dsimp only at hSw); go_simp; first | done | exact rfl)); simp only [List.set]
            refine step_read 10 37 rfl rfl (by kernel_rfl) (by kernel_rfl) (by kernel_rfl) (fun _ _ _ h => h) (by rfl) (v := ?_) (fun w hSw => ?_) (by assumption) ?_; rotate_left; (focus ((try dsimp only at hSw); go_simp; first | done | exact rfl)); simp only [List.set]
            refine step_read 11 38 rfl rfl (by kernel_rfl) (by kernel_rfl) (by kernel_rfl) (fun _ _ _ h => h) (by rfl) (v := ?_) (fun w hSw => ?_) (by assumption) ?_; rotate_left; (focus ((try dsimp only at hSw); go_simp; first | done | exact rfl)); simp only [List.set]
            refine step_read 12 39 rfl rfl (by kernel_rfl) (by kernel_rfl) (by kernel_rfl) (fun _ _ _ h => h) (by rfl) (v := ?_) (fun w hSw => ?_) (by assumption) ?_; rotate_left; (focus ((try dsimp only at hSw); go_simp; first | done | exact rfl)); simp only [List.set]
            refine step_read 13 40 rfl rfl (by kernel_rfl) (by kernel_rfl) (by kernel_rfl) (fun _ _ _ h => h) (by rfl) (v := ?_) (fun w hSw => ?_) (by assumption) ?_; rotate_left; (focus ((try dsimp only at hSw); go_simp; first | done | exact rfl)); simp only [List.set]
            refine step_read 14 41 rfl rfl (by kernel_rfl) (by kernel_rfl) (by kernel_rfl) (fun _ _ _ h => h) (by rfl) (v := ?_) (fun w hSw => ?_) (by assumption) ?_; rotate_left; (focus ((try dsimp only at hSw); go_simp; first | done | exact rfl)); simp only [List.set]
            (refine wpAnyH_ready (rs := [15]) (by kernel_rfl) (by simp) ?_; refine AllReadyH.cons rfl (fun K hK => ?_) AllReadyH.nil; go_simp; (go_at_call 86; refine (compare_any a0 b0 d0 a b c _).mono ?_; rintro e w2 ⟨rfl, hb⟩); refine hK.out _ _ ?_ (fun hHeld => ?_); (focus ((first | assumption | exact rk8_drew hkk | exact rk8_drew (by assumption) | exact rk8_keep (by omega) (by omega) (by omega) (by omega) (by omega) (by omega) (by omega) (by omega) (by omega) (by assumption) (by assumption)))); clear hK K)
            refine step_read 16 43 rfl rfl (by kernel_rfl) (by kernel_rfl) (by kernel_rfl) (fun _ _ _ h => h) (by rfl) (v := ?_) (fun w hSw => ?_) (by assumption) ?_; rotate_left; (focus ((try dsimp only at hSw); go_simp; first | done | exact rfl)); simp only [List.set]
            refine step_read 17 44 rfl rfl (by kernel_rfl) (by kernel_rfl) (by kernel_rfl) (fun _ _ _ h => h) (by rfl) (v := ?_) (fun w hSw => ?_) (by assumption) ?_; rotate_left; (focus ((try dsimp only at hSw); go_simp; first | done | exact rfl)); simp only [List.set]
            refine step_read 18 45 rfl rfl (by kernel_rfl) (by kernel_rfl) (by kernel_rfl) (fun _ _ _ h => h) (by rfl) (v := ?_) (fun w hSw => ?_) (by assumption) ?_; rotate_left; (focus ((try dsimp only at hSw); go_simp; first | done | exact rfl)); simp only [List.set]
            refine wpAnyH_done (by kernel_rfl) ?_ _
            go_wp2_with fail
            have hE := grel_out (by assumption) (rk8_out (by assumption)) (Nat.le_of_lt hsz)
            go_roundw
            case rel => exact ⟨k + 1, by omega, by go_num, GRel.next HO.out Hc.out hE.1 hE.2.1 hE.2.2.1 hE.2.2.2⟩
            case measure => simp [intOf]; omega
          · rw [Bool.not_eq_true] at ha
            have Hno : Hid (gok N L = false) := gok_no (i := k) (by rw [Hn.out]; exact hlt) (by rw [Hch.out, ha])
            rw [ha] at hah
            simp only [Bool.not_false] at hah
            have hkk :  (wr.alloc (.cells #[.int .i64 a, .int .i64 b, .int .i64 c] 96)).cell? ⟨w.heap.size, 0, none⟩ = some (.int .i64 N) ∧ (wr.alloc (.cells #[.int .i64 a, .int .i64 b, .int .i64 c] 96)).cell? ⟨w.heap.size, 1, none⟩ = some (.slice (some ⟨g, 0, none⟩) n cap) ∧ (wr.alloc (.cells #[.int .i64 a, .int .i64 b, .int .i64 c] 96)).cell? ⟨wr.heap.size, 0, none⟩ = some (.int .i64 a) ∧ (wr.alloc (.cells #[.int .i64 a, .int .i64 b, .int .i64 c] 96)).cell? ⟨wr.heap.size, 1, none⟩ = some (.int .i64 b) ∧ (wr.alloc (.cells #[.int .i64 a, .int .i64 b, .int .i64 c] 96)).cell? ⟨wr.heap.size, 2, none⟩ = some (.int .i64 c) ∧ (wr.alloc (.cells #[.int .i64 a, .int .i64 b, .int .i64 c] 96)).cell? ⟨g, m * 3, none⟩ = some (.int .i64 a0) ∧ (wr.alloc (.cells #[.int .i64 a, .int .i64 b, .int .i64 c] 96)).cell? ⟨g, m * 3 + 1, none⟩ = some (.int .i64 b0) ∧ (wr.alloc (.cells #[.int .i64 a, .int .i64 b, .int .i64 c] 96)).cell? ⟨g, m * 3 + 2, none⟩ = some (.int .i64 d0) ∧ wr.heap.size < (wr.alloc (.cells #[.int .i64 a, .int .i64 b, .int .i64 c] 96)).heap.size ∧ Below w.heap.size w (wr.alloc (.cells #[.int .i64 a, .int .i64 b, .int .i64 c] 96)) := ⟨by rw [old_box (by omega)]; exact k0, by rw [old_box (by omega)]; exact k1, by simp, by simp, by simp, by rw [old_box (by omega)]; exact z3, by rw [old_box (by omega)]; exact z4, by rw [old_box (by omega)]; exact z5, by simp, HB.out.alloc (by omega) _⟩
            go_wp2_with fail
            refine wp_region_held_drew (S := (fun w' => w'.cell? ⟨w.heap.size, 0, none⟩ = some (.int .i64 N) ∧ w'.cell? ⟨w.heap.size, 1, none⟩ = some (.slice (some ⟨g, 0, none⟩) n cap) ∧ w'.cell? ⟨wr.heap.size, 0, none⟩ = some (.int .i64 a) ∧ w'.cell? ⟨wr.heap.size, 1, none⟩ = some (.int .i64 b) ∧ w'.cell? ⟨wr.heap.size, 2, none⟩ = some (.int .i64 c) ∧ w'.cell? ⟨g, m * 3, none⟩ = some (.int .i64 a0) ∧ w'.cell? ⟨g, m * 3 + 1, none⟩ = some (.int .i64 b0) ∧ w'.cell? ⟨g, m * 3 + 2, none⟩ = some (.int .i64 d0) ∧ wr.heap.size < w'.heap.size ∧ Below w.heap.size w w')) (by kernel_rfl) ?_ (fun hHeld => ?_)
            · (first | assumption | exact rk8_drew hkk | exact rk8_drew (by assumption) | exact rk8_keep (by omega) (by omega) (by omega) (by omega) (by omega) (by omega) (by omega) (by omega) (by omega) (by assumption) (by assumption))
            refine step_read 0 27 rfl rfl (by kernel_rfl) (by kernel_rfl) (by kernel_rfl) (fun _ _ _ h => h) (by rfl) (v := ?_) (fun w hSw => ?_) (by assumption) ?_; rotate_left; (focus ((try dsimp only at hSw); go_simp; first | done | exact rfl)); simp only [List.set]
            refine step_read 1 28 rfl rfl (by kernel_rfl) (by kernel_rfl) (by kernel_rfl) (fun _ _ _ h => h) (by rfl) (v := ?_) (fun w hSw => ?_) (by assumption) ?_; rotate_left; (focus ((try dsimp only at hSw); go_simp; first | done | exact rfl)); simp only [List.set]
            (refine wpAnyH_ready (rs := [2]) (by kernel_rfl) (by simp) ?_; refine AllReadyH.cons rfl (fun K hK => ?_) AllReadyH.nil; go_simp; (go_at_call 85; refine (edgeOk_any N _ _ _ a b c _).mono ?_; rw [hp]; rintro e w2 ⟨rfl, hb⟩); refine hK.out _ _ ?_ (fun hHeld => ?_); (focus ((first | assumption | exact rk8_drew hkk | exact rk8_drew (by assumption) | exact rk8_keep (by omega) (by omega) (by omega) (by omega) (by omega) (by omega) (by omega) (by omega) (by omega) (by assumption) (by assumption)))); clear hK K)
            refine step_read 3 30 rfl rfl (by kernel_rfl) (by kernel_rfl) (by kernel_rfl) (fun _ _ _ h => h) (by rfl) (v := ?_) (fun w hSw => ?_) (by assumption) ?_; rotate_left; (focus ((try dsimp only at hSw); go_simp; first | done | exact rfl)); simp only [List.set]
            refine step_read 4 31 rfl rfl (by kernel_rfl) (by kernel_rfl) (by kernel_rfl) (fun _ _ _ h => h) (by rfl) (v := ?_) (fun w hSw => ?_) (by assumption) ?_; rotate_left; (focus ((try dsimp only at hSw); go_simp; first | done | exact rfl)); simp only [List.set]
            refine step_read 5 32 rfl rfl (by kernel_rfl) (by kernel_rfl) (by kernel_rfl) (fun _ _ _ h => h) (by rfl) (v := ?_) (fun w hSw => ?_) (by assumption) ?_; rotate_left; (focus ((try dsimp only at hSw); go_simp; first | done | exact rfl)); simp only [List.set]
            refine step_read 6 33 rfl rfl (by kernel_rfl) (by kernel_rfl) (by kernel_rfl) (fun _ _ _ h => h) (by rfl) (v := ?_) (fun w hSw => ?_) (by assumption) ?_; rotate_left; (focus ((try dsimp only at hSw); go_simp; first | done | exact rfl)); simp only [List.set]
            refine step_read 7 34 rfl rfl (by kernel_rfl) (by kernel_rfl) (by kernel_rfl) (fun _ _ _ h => h) (by rfl) (v := ?_) (fun w hSw => ?_) (by assumption) ?_; rotate_left; (focus ((try dsimp only at hSw); go_simp; first | done | exact rfl)); simp only [List.set]
            refine step_read 8 35 rfl rfl (by kernel_rfl) (by kernel_rfl) (by kernel_rfl) (fun _ _ _ h => h) (by rfl) (v := ?_) (fun w hSw => ?_) (by assumption) ?_; rotate_left; (focus ((try dsimp only at hSw); go_simp; first | done | exact rfl)); simp only [List.set]
            refine step_read 9 36 rfl rfl (by kernel_rfl) (by kernel_rfl) (by kernel_rfl) (fun _ _ _ h => h) (by rfl) (v := ?_) (fun w hSw => ?_) (by assumption) ?_; rotate_left; (focus ((try dsimp only at hSw); go_simp; first | done | exact rfl)); simp only [List.set]
            refine step_read 10 37 rfl rfl (by kernel_rfl) (by kernel_rfl) (by kernel_rfl) (fun _ _ _ h => h) (by rfl) (v := ?_) (fun w hSw => ?_) (by assumption) ?_; rotate_left; (focus ((try dsimp only at hSw); go_simp; first | done | exact rfl)); simp only [List.set]
            refine step_read 11 38 rfl rfl (by kernel_rfl) (by kernel_rfl) (by kernel_rfl) (fun _ _ _ h => h) (by rfl) (v := ?_) (fun w hSw => ?_) (by assumption) ?_; rotate_left; (focus ((try dsimp only at hSw); go_simp; first | done | exact rfl)); simp only [List.set]
            refine step_read 12 39 rfl rfl (by kernel_rfl) (by kernel_rfl) (by kernel_rfl) (fun _ _ _ h => h) (by rfl) (v := ?_) (fun w hSw => ?_) (by assumption) ?_; rotate_left; (focus ((try dsimp only at hSw); go_simp; first | done | exact rfl)); simp only [List.set]
            refine step_read 13 40 rfl rfl (by kernel_rfl) (by kernel_rfl) (by kernel_rfl) (fun _ _ _ h => h) (by rfl) (v := ?_) (fun w hSw => ?_) (by assumption) ?_; rotate_left; (focus ((try dsimp only at hSw); go_simp; first | done | exact rfl)); simp only [List.set]
            refine step_read 14 41 rfl rfl (by kernel_rfl) (by kernel_rfl) (by kernel_rfl) (fun _ _ _ h => h) (by rfl) (v := ?_) (fun w hSw => ?_) (by assumption) ?_; rotate_left; (focus ((try dsimp only at hSw); go_simp; first | done | exact rfl)); simp only [List.set]
            (refine wpAnyH_ready (rs := [15]) (by kernel_rfl) (by simp) ?_; refine AllReadyH.cons rfl (fun K hK => ?_) AllReadyH.nil; go_simp; (go_at_call 86; refine (compare_any a0 b0 d0 a b c _).mono ?_; rintro e w2 ⟨rfl, hb⟩); refine hK.out _ _ ?_ (fun hHeld => ?_); (focus ((first | assumption | exact rk8_drew hkk | exact rk8_drew (by assumption) | exact rk8_keep (by omega) (by omega) (by omega) (by omega) (by omega) (by omega) (by omega) (by omega) (by omega) (by assumption) (by assumption)))); clear hK K)
            refine step_read 16 43 rfl rfl (by kernel_rfl) (by kernel_rfl) (by kernel_rfl) (fun _ _ _ h => h) (by rfl) (v := ?_) (fun w hSw => ?_) (by assumption) ?_; rotate_left; (focus ((try dsimp only at hSw); go_simp; first | done | exact rfl)); simp only [List.set]
            refine step_read 17 44 rfl rfl (by kernel_rfl) (by kernel_rfl) (by kernel_rfl) (fun _ _ _ h => h) (by rfl) (v := ?_) (fun w hSw => ?_) (by assumption) ?_; rotate_left; (focus ((try dsimp only at hSw); go_simp; first | done | exact rfl)); simp only [List.set]
            refine step_read 18 45 rfl rfl (by kernel_rfl) (by kernel_rfl) (by kernel_rfl) (fun _ _ _ h => h) (by rfl) (v := ?_) (fun w hSw => ?_) (by assumption) ?_; rotate_left; (focus ((try dsimp only at hSw); go_simp; first | done | exact rfl)); simp only [List.set]
            refine wpAnyH_done (by kernel_rfl) ?_ _
            go_wp2_with fail
            go_ret
            exact ⟨by rw [Hno.out]; rfl, (rk8_out (by assumption)).2⟩
      · rw [Bool.not_eq_true] at hp
        have Hno : Hid (gok N L = false) := gok_no (i := k) (by rw [Hn.out]; exact hlt) (by rw [echk_at HL.out, hp, Bool.false_and])
        have hkk :  (wr.alloc (.cells #[.int .i64 a, .int .i64 b, .int .i64 c] 96)).cell? ⟨w.heap.size, 0, none⟩ = some (.int .i64 N) ∧ (wr.alloc (.cells #[.int .i64 a, .int .i64 b, .int .i64 c] 96)).cell? ⟨w.heap.size, 1, none⟩ = some (.slice (some ⟨g, 0, none⟩) n cap) ∧ (wr.alloc (.cells #[.int .i64 a, .int .i64 b, .int .i64 c] 96)).cell? ⟨wr.heap.size, 0, none⟩ = some (.int .i64 a) ∧ (wr.alloc (.cells #[.int .i64 a, .int .i64 b, .int .i64 c] 96)).cell? ⟨wr.heap.size, 1, none⟩ = some (.int .i64 b) ∧ (wr.alloc (.cells #[.int .i64 a, .int .i64 b, .int .i64 c] 96)).cell? ⟨wr.heap.size, 2, none⟩ = some (.int .i64 c) ∧ wr.heap.size < (wr.alloc (.cells #[.int .i64 a, .int .i64 b, .int .i64 c] 96)).heap.size ∧ Below w.heap.size w (wr.alloc (.cells #[.int .i64 a, .int .i64 b, .int .i64 c] 96)) := ⟨by rw [old_box (by omega)]; exact k0, by rw [old_box (by omega)]; exact k1, by simp, by simp, by simp, by simp, HB.out.alloc (by omega) _⟩
        go_wp2_with fail
        refine wp_region_held_drew (S := (fun w' => w'.cell? ⟨w.heap.size, 0, none⟩ = some (.int .i64 N) ∧ w'.cell? ⟨w.heap.size, 1, none⟩ = some (.slice (some ⟨g, 0, none⟩) n cap) ∧ w'.cell? ⟨wr.heap.size, 0, none⟩ = some (.int .i64 a) ∧ w'.cell? ⟨wr.heap.size, 1, none⟩ = some (.int .i64 b) ∧ w'.cell? ⟨wr.heap.size, 2, none⟩ = some (.int .i64 c) ∧ wr.heap.size < w'.heap.size ∧ Below w.heap.size w w')) (by kernel_rfl) ?_ (fun hHeld => ?_)
        · (first | assumption | exact rk5_drew hkk | exact rk5_drew (by assumption) | exact rk5_keep (by omega) (by omega) (by omega) (by omega) (by omega) (by omega) (by assumption) (by assumption))
        refine step_read 0 27 rfl rfl (by kernel_rfl) (by kernel_rfl) (by kernel_rfl) (fun _ _ _ h => h) (by rfl) (v := ?_) (fun w hSw => ?_) (by assumption) ?_; rotate_left; (focus ((try dsimp only at hSw); go_simp; first | done | exact rfl)); simp only [List.set]
        refine step_read 1 28 rfl rfl (by kernel_rfl) (by kernel_rfl) (by kernel_rfl) (fun _ _ _ h => h) (by rfl) (v := ?_) (fun w hSw => ?_) (by assumption) ?_; rotate_left; (focus ((try dsimp only at hSw); go_simp; first | done | exact rfl)); simp only [List.set]
        (refine wpAnyH_ready (rs := [2]) (by kernel_rfl) (by simp) ?_; refine AllReadyH.cons rfl (fun K hK => ?_) AllReadyH.nil; go_simp; (go_at_call 85; refine (edgeOk_any N _ _ _ a b c _).mono ?_; rw [hp]; rintro e w2 ⟨rfl, hb⟩); refine hK.out _ _ ?_ (fun hHeld => ?_); (focus ((first | assumption | exact rk5_drew hkk | exact rk5_drew (by assumption) | exact rk5_keep (by omega) (by omega) (by omega) (by omega) (by omega) (by omega) (by assumption) (by assumption)))); clear hK K)
        refine step_read 3 30 rfl rfl (by kernel_rfl) (by kernel_rfl) (by kernel_rfl) (fun _ _ _ h => h) (by rfl) (v := ?_) (fun w hSw => ?_) (by assumption) ?_; rotate_left; (focus ((try dsimp only at hSw); go_simp; first | done | exact rfl)); simp only [List.set]
        refine step_read 4 31 rfl rfl (by kernel_rfl) (by kernel_rfl) (by kernel_rfl) (fun _ _ _ h => h) (by rfl) (v := ?_) (fun w hSw => ?_) (by assumption) ?_; rotate_left; (focus ((try dsimp only at hSw); go_simp; first | done | exact rfl)); simp only [List.set]
        refine step_skip 5 32 rfl rfl (by kernel_rfl) (by kernel_rfl) (by kernel_rfl) (fun _ _ _ h => h) (by rfl) (by assumption) ?_; simp only [List.set]
        refine step_skip 6 33 rfl rfl (by kernel_rfl) (by kernel_rfl) (by kernel_rfl) (fun _ _ _ h => h) (by rfl) (by assumption) ?_; simp only [List.set]
        refine step_skip 7 34 rfl rfl (by kernel_rfl) (by kernel_rfl) (by kernel_rfl) (fun _ _ _ h => h) (by rfl) (by assumption) ?_; simp only [List.set]
        refine step_skip 8 35 rfl rfl (by kernel_rfl) (by kernel_rfl) (by kernel_rfl) (fun _ _ _ h => h) (by rfl) (by assumption) ?_; simp only [List.set]
        refine step_skip 9 36 rfl rfl (by kernel_rfl) (by kernel_rfl) (by kernel_rfl) (fun _ _ _ h => h) (by rfl) (by assumption) ?_; simp only [List.set]
        refine step_skip 10 37 rfl rfl (by kernel_rfl) (by kernel_rfl) (by kernel_rfl) (fun _ _ _ h => h) (by rfl) (by assumption) ?_; simp only [List.set]
        refine step_skip 11 38 rfl rfl (by kernel_rfl) (by kernel_rfl) (by kernel_rfl) (fun _ _ _ h => h) (by rfl) (by assumption) ?_; simp only [List.set]
        refine step_skip 12 39 rfl rfl (by kernel_rfl) (by kernel_rfl) (by kernel_rfl) (fun _ _ _ h => h) (by rfl) (by assumption) ?_; simp only [List.set]
        refine step_skip 13 40 rfl rfl (by kernel_rfl) (by kernel_rfl) (by kernel_rfl) (fun _ _ _ h => h) (by rfl) (by assumption) ?_; simp only [List.set]
        refine step_skip 14 41 rfl rfl (by kernel_rfl) (by kernel_rfl) (by kernel_rfl) (fun _ _ _ h => h) (by rfl) (by assumption) ?_; simp only [List.set]
        refine step_skip 15 42 rfl rfl (by kernel_rfl) (by kernel_rfl) (by kernel_rfl) (fun _ _ _ h => h) (by rfl) (by assumption) ?_; simp only [List.set]
        refine step_skip 16 43 rfl rfl (by kernel_rfl) (by kernel_rfl) (by kernel_rfl) (fun _ _ _ h => h) (by rfl) (by assumption) ?_; simp only [List.set]
        refine step_skip 17 44 rfl rfl (by kernel_rfl) (by kernel_rfl) (by kernel_rfl) (fun _ _ _ h => h) (by rfl) (by assumption) ?_; simp only [List.set]
        refine step_read 18 45 rfl rfl (by kernel_rfl) (by kernel_rfl) (by kernel_rfl) (fun _ _ _ h => h) (by rfl) (v := ?_) (fun w hSw => ?_) (by assumption) ?_; rotate_left; (focus ((try dsimp only at hSw); go_simp; first | done | exact rfl)); simp only [List.set]
        refine wpAnyH_done (by kernel_rfl) ?_ _
        go_wp2_with fail
        go_ret
        exact ⟨by rw [Hno.out]; rfl, (rk5_out (by assumption)).2⟩
    · have hge : ¬ ((k : Int) < (n : Int)) := by omega
      obtain rfl : k = n := by omega
      have Hy : Hid (gok N L = true) := gok_yes hN1 hN2 (by rw [Hn.out]; exact h60) (fun i hi => hR.out.1 i (by rw [Hn.out] at hi; exact hi))
      clear hR hB
      go_wp2
      go_ret
      exact ⟨by rw [Hy.out]; rfl, HB.out⟩

end Go.Proofs.Ytjenjdhoblcohaa
