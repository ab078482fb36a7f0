/- TableOk of the program as a contract. -/
import Derived.Test.YtgdnfglhlpnooaaTk
import Derived.Test.YtgdnfglhlpnooaaGk
namespace Go.Proofs.Ytgdnfglhlpnooaa
open Go.RowKit


theorem itk_out {w w1 : World} {R : Nat} {v0 : Value} {Q : Prop} (h : w1.cell? ⟨w.heap.size, 0, none⟩ = some v0 ∧ Q) (h' : R < w1.heap.size ∧ Below w.heap.size w w1) (hR : w.heap.size ≤ R) : w1.cell? ⟨w.heap.size, 0, none⟩ = some v0 ∧ w.heap.size < w1.heap.size ∧ Below w.heap.size w w1 := ⟨h.1, by omega, h'.2⟩

set_option maxHeartbeats 4000000 in
theorem itok_some (g n cap : Nat) (L : List Rt) (w : World) (hn : L.length = n) (h120 : n ≤ 120) (hg : g < w.heap.size) (h : ∀ q z, (flat L)[q]? = some z → w.cell? ⟨g, q, none⟩ = some (.int .i64 z)) :
    Calls Try.prog 56 #[.agg #[.slice (some ⟨g, 0, none⟩) n cap]] w fun e w' => e = .returned (.bool (tok L)) ∧ Below w.heap.size w w' := by
  have Hn := Lib.hid hn
  have H := Lib.hid h
  clear h hn
  go_enter Try.func56, Try.ntmps56
  go_wp2
  go_loopw [12] (fun i wr => ∃ k : Nat, k ≤ n ∧ i = .int .i64 (k : Int) ∧ Hid (TokRel w wr (.slice (some ⟨g, 0, none⟩) n cap) L k)) (fun i _ => n - (intOf i).toNat)
  case atStart => exact ⟨0, Nat.zero_le _, rfl, fun j hj => absurd hj (Nat.not_lt_zero _), new_box _ _ _, by simp, by go_grown⟩
  case round =>
    obtain ⟨k, hk, rfl, hR⟩ := hrel
    by_cases hlt : k < n
    · obtain ⟨r, hr⟩ : ∃ r, L[k]? = some r := ⟨L[k]'(by rw [Hn.out]; exact hlt), List.getElem?_eq_getElem _⟩
      obtain ⟨a, b, c⟩ := r
      obtain ⟨r0, r1, r2⟩ := flat_at L k _ hr
      have c1 := H.out _ _ r0
      have c2 := H.out _ _ r1
      have c3 := H.out _ _ r2
      have HL : Hid (L[k]? = some (a, b, c)) := hr
      clear r0 r1 r2 hr
      have k0 := hR.out.2.1
      have z1 : wr.cell? ⟨g, k * 3, none⟩ = some (.int .i64 a) := by rw [hR.out.2.2.2.cell (p := ⟨g, k * 3, none⟩) hg]; exact c1
      have z2 : wr.cell? ⟨g, k * 3 + 1, none⟩ = some (.int .i64 b) := by rw [hR.out.2.2.2.cell (p := ⟨g, k * 3 + 1, none⟩) hg]; exact c2
      have z3 : wr.cell? ⟨g, k * 3 + 2, none⟩ = some (.int .i64 c) := by rw [hR.out.2.2.2.cell (p := ⟨g, k * 3 + 2, none⟩) hg]; exact c3
      have hsz := hR.out.2.2.1
      have hB := hR.out.2.2.2
      clear c1 c2 c3
      have q0 : (0 : Int) ≤ (k : Int) := by omega
      have q1 : (k : Int) < (n : Int) := by omega
      by_cases hp : rok (a, b, c) = true
      · have hrok : Hid (rok (a, b, c) = true) := hp
        by_cases hk0 : k = 0
        · have Hc : Hid (chk L k = true) := by show chk L k = true; rw [chk_at HL.out, hrok.out, hk0]; rfl
          have HO := Lib.hid hR.out.1
          have d0 : decide (0 < k) = false := by rw [hk0]; decide
          have Hk0 := Lib.hid hk0
          clear hk0
          have hkk :  (wr.alloc (.cells #[.int .i64 a, .int .i64 b, .int .i64 c] 43)).cell? ⟨w.heap.size, 0, none⟩ = some (.slice (some ⟨g, 0, none⟩) n cap) ∧ (wr.alloc (.cells #[.int .i64 a, .int .i64 b, .int .i64 c] 43)).cell? ⟨wr.heap.size, 0, none⟩ = some (.int .i64 a) ∧ (wr.alloc (.cells #[.int .i64 a, .int .i64 b, .int .i64 c] 43)).cell? ⟨wr.heap.size, 1, none⟩ = some (.int .i64 b) ∧ (wr.alloc (.cells #[.int .i64 a, .int .i64 b, .int .i64 c] 43)).cell? ⟨wr.heap.size, 2, none⟩ = some (.int .i64 c) ∧ wr.heap.size < (wr.alloc (.cells #[.int .i64 a, .int .i64 b, .int .i64 c] 43)).heap.size ∧ Below w.heap.size w (wr.alloc (.cells #[.int .i64 a, .int .i64 b, .int .i64 c] 43)) := ⟨by rw [old_box (by omega)]; exact k0, by simp, by simp, by simp, by simp, hB.alloc (by omega) _⟩
          go_wp2_with fail
          refine wp_region_held_drew (S := (fun w' => w'.cell? ⟨w.heap.size, 0, none⟩ = some (.slice (some ⟨g, 0, none⟩) n cap) ∧ w'.cell? ⟨wr.heap.size, 0, none⟩ = some (.int .i64 a) ∧ w'.cell? ⟨wr.heap.size, 1, none⟩ = some (.int .i64 b) ∧ w'.cell? ⟨wr.heap.size, 2, none⟩ = some (.int .i64 c) ∧ wr.heap.size < w'.heap.size ∧ Below w.heap.size w w')) (by kernel_rfl) ?_ (fun hHeld => ?_)
          · (first | assumption | exact rk4_drew hkk | exact rk4_drew (by assumption) | exact rk4_keep (by omega) (by omega) (by omega) (by omega) (by omega) (by assumption) (by assumption))
          refine step_read 0 17 rfl rfl (by kernel_rfl) (by kernel_rfl) (by kernel_rfl) (fun _ _ _ h => h) (by rfl) (v := ?_) (fun w hSw => ?_) (by assumption) ?_; rotate_left; (focus ((try dsimp only at hSw); go_simp; first | done | exact rfl)); simp only [List.set]
          (refine wpAnyH_ready (rs := [1]) (by kernel_rfl) (by simp) ?_; refine AllReadyH.cons rfl (fun K hK => ?_) AllReadyH.nil; go_simp; (go_at_call 100; refine (routeOk_any a b c _).mono ?_; rw [hp]; rintro e w2 ⟨rfl, hb⟩); refine hK.out _ _ ?_ (fun hHeld => ?_); (focus ((first | assumption | exact rk4_drew hkk | exact rk4_drew (by assumption) | exact rk4_keep (by omega) (by omega) (by omega) (by omega) (by omega) (by assumption) (by assumption)))); clear hK K)
          refine step_read 2 19 rfl rfl (by kernel_rfl) (by kernel_rfl) (by kernel_rfl) (fun _ _ _ h => h) (by rfl) (v := ?_) (fun w hSw => ?_) (by assumption) ?_; rotate_left; (focus ((try dsimp only at hSw); go_simp; first | done | exact rfl)); simp only [List.set]
          refine step_read 3 20 rfl rfl (by kernel_rfl) (by kernel_rfl) (by kernel_rfl) (fun _ _ _ h => h) (by rfl) (v := ?_) (fun w hSw => ?_) (by assumption) ?_; rotate_left; (focus ((try dsimp only at hSw); go_simp; first | done | exact rfl)); simp only [List.set]
          refine step_read 4 21 rfl rfl (by kernel_rfl) (by kernel_rfl) (by kernel_rfl) (fun _ _ _ h => h) (by rfl) (v := ?_) (fun w hSw => ?_) (by assumption) ?_; rotate_left; (focus ((try dsimp only at hSw); go_simp; first | done | exact rfl)); simp only [List.set]
          refine step_read 5 22 rfl rfl (by kernel_rfl) (by kernel_rfl) (by kernel_rfl) (fun _ _ _ h => h) (by rfl) (v := ?_) (fun w hSw => ?_) (by assumption) ?_; rotate_left; (focus ((try dsimp only at hSw); go_simp; first | done | exact rfl)); simp only [List.set]
          refine step_read 6 23 rfl rfl (by kernel_rfl) (by kernel_rfl) (by kernel_rfl) (fun _ _ _ h => h) (by rfl) (v := ?_) (fun w hSw => ?_) (by assumption) ?_; rotate_left; (focus ((try dsimp only at hSw); go_simp; first | done | exact rfl)); simp only [List.set]
          refine step_skip 7 24 rfl rfl (by kernel_rfl) (by kernel_rfl) (by kernel_rfl) (fun _ _ _ h => h) (by rfl) (by assumption) ?_; simp only [List.set]
          refine step_skip 8 25 rfl rfl (by kernel_rfl) (by kernel_rfl) (by kernel_rfl) (fun _ _ _ h => h) (by rfl) (by assumption) ?_; simp only [List.set]
          refine step_skip 9 26 rfl rfl (by kernel_rfl) (by kernel_rfl) (by kernel_rfl) (fun _ _ _ h => h) (by rfl) (by assumption) ?_; simp only [List.set]
          refine step_skip 10 27 rfl rfl (by kernel_rfl) (by kernel_rfl) (by kernel_rfl) (fun _ _ _ h => h) (by rfl) (by assumption) ?_; simp only [List.set]
          refine step_skip 11 28 rfl rfl (by kernel_rfl) (by kernel_rfl) (by kernel_rfl) (fun _ _ _ h => h) (by rfl) (by assumption) ?_; simp only [List.set]
          refine step_skip 12 29 rfl rfl (by kernel_rfl) (by kernel_rfl) (by kernel_rfl) (fun _ _ _ h => h) (by rfl) (by assumption) ?_; simp only [List.set]
          refine step_skip 13 30 rfl rfl (by kernel_rfl) (by kernel_rfl) (by kernel_rfl) (fun _ _ _ h => h) (by rfl) (by assumption) ?_; simp only [List.set]
          refine step_skip 14 31 rfl rfl (by kernel_rfl) (by kernel_rfl) (by kernel_rfl) (fun _ _ _ h => h) (by rfl) (by assumption) ?_; simp only [List.set]
          refine step_skip 15 32 rfl rfl (by kernel_rfl) (by kernel_rfl) (by kernel_rfl) (fun _ _ _ h => h) (by rfl) (by assumption) ?_; simp only [List.set]
          refine step_skip 16 33 rfl rfl (by kernel_rfl) (by kernel_rfl) (by kernel_rfl) (fun _ _ _ h => h) (by rfl) (by assumption) ?_; simp only [List.set]
          refine step_skip 17 34 rfl rfl (by kernel_rfl) (by kernel_rfl) (by kernel_rfl) (fun _ _ _ h => h) (by rfl) (by assumption) ?_; simp only [List.set]
          refine step_read 18 35 rfl rfl (by kernel_rfl) (by kernel_rfl) (by kernel_rfl) (fun _ _ _ h => h) (by rfl) (v := ?_) (fun w hSw => ?_) (by assumption) ?_; rotate_left; (focus ((try dsimp only at hSw); go_simp; first | done | exact rfl)); simp only [List.set]
          refine step_read 19 36 rfl rfl (by kernel_rfl) (by kernel_rfl) (by kernel_rfl) (fun _ _ _ h => h) (by rfl) (v := ?_) (fun w hSw => ?_) (by assumption) ?_; rotate_left; (focus ((try dsimp only at hSw); go_simp; first | done | exact rfl)); simp only [List.set]
          refine wpAnyH_done (by kernel_rfl) ?_ _
          go_wp2_with fail
          have hE := itk_out (by assumption) (rk4_out (by assumption)) (Nat.le_of_lt hsz)
          go_roundw
          case rel => exact ⟨k + 1, by omega, by go_num, TokRel.next HO.out Hc.out hE⟩
          case measure => simp [intOf]; omega
        · obtain ⟨m, hm⟩ : ∃ m, k = m + 1 := ⟨k - 1, by omega⟩
          have HO := Lib.hid hR.out.1
          obtain ⟨r', hr'⟩ : ∃ r, L[m]? = some r := ⟨L[m]'(by rw [Hn.out]; omega), List.getElem?_eq_getElem _⟩
          obtain ⟨a0, b0, c0⟩ := r'
          obtain ⟨r0, r1, r2⟩ := flat_at L m _ hr'
          have HL' : Hid (L[m]? = some (a0, b0, c0)) := hr'
          have p1 := H.out _ _ r0
          have p2 := H.out _ _ r1
          have k4 : wr.cell? ⟨g, m * 3, none⟩ = some (.int .i64 a0) := by rw [hR.out.2.2.2.cell (p := ⟨g, m * 3, none⟩) hg]; exact p1
          have k5 : wr.cell? ⟨g, m * 3 + 1, none⟩ = some (.int .i64 b0) := by rw [hR.out.2.2.2.cell (p := ⟨g, m * 3 + 1, none⟩) hg]; exact p2
          clear r0 r1 r2 hr' p1 p2
          have d0 : decide (0 < k) = true := decide_eq_true (by omega)
          have d1 : 0 < k := by omega
          have e1 : IntKind.i64.wrap ((k : Int) - 1) = (m : Int) := by rw [IntWalk.i64_in _ (by omega)]; omega
          have q2 : (0 : Int) ≤ (m : Int) := by omega
          have q3 : (m : Int) < (n : Int) := by omega
          have Hch : Hid (chk L k = ahP a0 b0 a b) := by show chk L k = _; rw [hm, chk_prev (by rw [← hm]; exact HL.out) HL'.out, hrok.out]; rfl
          have Hm := Lib.hid hm
          clear hm hk0
          have hah := cmpP_ah a0 b0 a b
          by_cases ha : ahP a0 b0 a b = true
          · have Hc : Hid (chk L k = true) := by show chk L k = true; rw [Hch.out, ha]
            rw [ha] at hah
            simp only [Bool.not_true] at hah
            have hkk :  (wr.alloc (.cells #[.int .i64 a, .int .i64 b, .int .i64 c] 43)).cell? ⟨w.heap.size, 0, none⟩ = some (.slice (some ⟨g, 0, none⟩) n cap) ∧ (wr.alloc (.cells #[.int .i64 a, .int .i64 b, .int .i64 c] 43)).cell? ⟨wr.heap.size, 0, none⟩ = some (.int .i64 a) ∧ (wr.alloc (.cells #[.int .i64 a, .int .i64 b, .int .i64 c] 43)).cell? ⟨wr.heap.size, 1, none⟩ = some (.int .i64 b) ∧ (wr.alloc (.cells #[.int .i64 a, .int .i64 b, .int .i64 c] 43)).cell? ⟨wr.heap.size, 2, none⟩ = some (.int .i64 c) ∧ (wr.alloc (.cells #[.int .i64 a, .int .i64 b, .int .i64 c] 43)).cell? ⟨g, m * 3, none⟩ = some (.int .i64 a0) ∧ (wr.alloc (.cells #[.int .i64 a, .int .i64 b, .int .i64 c] 43)).cell? ⟨g, m * 3 + 1, none⟩ = some (.int .i64 b0) ∧ wr.heap.size < (wr.alloc (.cells #[.int .i64 a, .int .i64 b, .int .i64 c] 43)).heap.size ∧ Below w.heap.size w (wr.alloc (.cells #[.int .i64 a, .int .i64 b, .int .i64 c] 43)) := ⟨by rw [old_box (by omega)]; exact k0, by simp, by simp, by simp, by rw [old_box (by omega)]; exact k4, by rw [old_box (by omega)]; exact k5, by simp, hB.alloc (by omega) _⟩
            go_wp2_with fail
            refine wp_region_held_drew (S := (fun w' => w'.cell? ⟨w.heap.size, 0, none⟩ = some (.slice (some ⟨g, 0, none⟩) n cap) ∧ w'.cell? ⟨wr.heap.size, 0, none⟩ = some (.int .i64 a) ∧ w'.cell? ⟨wr.heap.size, 1, none⟩ = some (.int .i64 b) ∧ w'.cell? ⟨wr.heap.size, 2, none⟩ = some (.int .i64 c) ∧ w'.cell? ⟨g, m * 3, none⟩ = some (.int .i64 a0) ∧ w'.cell? ⟨g, m * 3 + 1, none⟩ = some (.int .i64 b0) ∧ wr.heap.size < w'.heap.size ∧ Below w.heap.size w w')) (by kernel_rfl) ?_ (fun hHeld => ?_)
            · (first | assumption | exact rk6_drew hkk | exact rk6_drew (by assumption) | exact rk6_keep (by omega) (by omega) (by omega) (by omega) (by omega) (by omega) (by omega) (by assumption) (by assumption))
            refine step_read 0 17 rfl rfl (by kernel_rfl) (by kernel_rfl) (by kernel_rfl) (fun _ _ _ h => h) (by rfl) (v := ?_) (fun w hSw => ?_) (by assumption) ?_; rotate_left; (focus ((try dsimp only at hSw); go_simp; first | done | exact rfl)); simp only [List.set]
            (refine wpAnyH_ready (rs := [1]) (by kernel_rfl) (by simp) ?_; refine AllReadyH.cons rfl (fun K hK => ?_) AllReadyH.nil; go_simp; (go_at_call 100; refine (routeOk_any a b c _).mono ?_; rw [hp]; rintro e w2 ⟨rfl, hb⟩); refine hK.out _ _ ?_ (fun hHeld => ?_); (focus ((first | assumption | exact rk6_drew hkk | exact rk6_drew (by assumption) | exact rk6_keep (by omega) (by omega) (by omega) (by omega) (by omega) (by omega) (by omega) (by assumption) (by assumption)))); clear hK K)
            refine step_read 2 19 rfl rfl (by kernel_rfl) (by kernel_rfl) (by kernel_rfl) (fun _ _ _ h => h) (by rfl) (v := ?_) (fun w hSw => ?_) (by assumption) ?_; rotate_left; (focus ((try dsimp only at hSw); go_simp; first | done | exact rfl)); simp only [List.set]
            refine step_read 3 20 rfl rfl (by kernel_rfl) (by kernel_rfl) (by kernel_rfl) (fun _ _ _ h => h) (by rfl) (v := ?_) (fun w hSw => ?_) (by assumption) ?_; rotate_left; (focus ((try dsimp only at hSw); go_simp; first | done | exact rfl)); simp only [List.set]
            refine step_read 4 21 rfl rfl (by kernel_rfl) (by kernel_rfl) (by kernel_rfl) (fun _ _ _ h => h) (by rfl) (v := ?_) (fun w hSw => ?_) (by assumption) ?_; rotate_left; (focus ((try dsimp only at hSw); go_simp; first | done | exact rfl)); simp only [List.set]
            refine step_read 5 22 rfl rfl (by kernel_rfl) (by kernel_rfl) (by kernel_rfl) (fun _ _ _ h => h) (by rfl) (v := ?_) (fun w hSw => ?_) (by assumption) ?_; rotate_left; (focus ((try dsimp only at hSw); go_simp; first | done | exact rfl)); simp only [List.set]
            refine step_read 6 23 rfl rfl (by kernel_rfl) (by kernel_rfl) (by kernel_rfl) (fun _ _ _ h => h) (by rfl) (v := ?_) (fun w hSw => ?_) (by assumption) ?_; rotate_left; (focus ((try dsimp only at hSw); go_simp; first | done | exact rfl)); simp only [List.set]
            refine step_read 7 24 rfl rfl (by kernel_rfl) (by kernel_rfl) (by kernel_rfl) (fun _ _ _ h => h) (by rfl) (v := ?_) (fun w hSw => ?_) (by assumption) ?_; rotate_left; (focus ((try dsimp only at hSw); go_simp; first | done | exact rfl)); simp only [List.set]
            refine step_read 8 25 rfl rfl (by kernel_rfl) (by kernel_rfl) (by kernel_rfl) (fun _ _ _ h => h) (by rfl) (v := ?_) (fun w hSw => ?_) (by assumption) ?_; rotate_left; (focus ((try dsimp only at hSw); go_simp; first | done | exact rfl)); simp only [List.set]
            refine step_read 9 26 rfl rfl (by kernel_rfl) (by kernel_rfl) (by kernel_rfl) (fun _ _ _ h => h) (by rfl) (v := ?_) (fun w hSw => ?_) (by assumption) ?_; rotate_left; (focus ((try dsimp only at hSw); go_simp; first | done | exact rfl)); simp only [List.set]
            refine step_read 10 27 rfl rfl (by kernel_rfl) (by kernel_rfl) (by kernel_rfl) (fun _ _ _ h => h) (by rfl) (v := ?_) (fun w hSw => ?_) (by assumption) ?_; rotate_left; (focus ((try dsimp only at hSw); go_simp; first | done | exact rfl)); simp only [List.set]
            refine step_read 11 28 rfl rfl (by kernel_rfl) (by kernel_rfl) (by kernel_rfl) (fun _ _ _ h => h) (by rfl) (v := ?_) (fun w hSw => ?_) (by assumption) ?_; rotate_left; (focus ((try dsimp only at hSw); go_simp; first | done | exact rfl)); simp only [List.set]
            refine step_read 12 29 rfl rfl (by kernel_rfl) (by kernel_rfl) (by kernel_rfl) (fun _ _ _ h => h) (by rfl) (v := ?_) (fun w hSw => ?_) (by assumption) ?_; rotate_left; (focus ((try dsimp only at hSw); go_simp; first | done | exact rfl)); simp only [List.set]
            refine step_read 13 30 rfl rfl (by kernel_rfl) (by kernel_rfl) (by kernel_rfl) (fun _ _ _ h => h) (by rfl) (v := ?_) (fun w hSw => ?_) (by assumption) ?_; rotate_left; (focus ((try dsimp only at hSw); go_simp; first | done | exact rfl)); simp only [List.set]
            refine step_read 14 31 rfl rfl (by kernel_rfl) (by kernel_rfl) (by kernel_rfl) (fun _ _ _ h => h) (by rfl) (v := ?_) (fun w hSw => ?_) (by assumption) ?_; rotate_left; (focus ((try dsimp only at hSw); go_simp; first | done | exact rfl)); simp only [List.set]
            refine step_read 15 32 rfl rfl (by kernel_rfl) (by kernel_rfl) (by kernel_rfl) (fun _ _ _ h => h) (by rfl) (v := ?_) (fun w hSw => ?_) (by assumption) ?_; rotate_left; (focus ((try dsimp only at hSw); go_simp; first | done | exact rfl)); simp only [List.set]
            (refine wpAnyH_ready (rs := [16]) (by kernel_rfl) (by simp) ?_; refine AllReadyH.cons rfl (fun K hK => ?_) AllReadyH.nil; go_simp; (go_at_call 83; refine (compare_any a0 b0 a b _).mono ?_; rintro e w2 ⟨rfl, hb⟩); refine hK.out _ _ ?_ (fun hHeld => ?_); (focus ((first | assumption | exact rk6_drew hkk | exact rk6_drew (by assumption) | exact rk6_keep (by omega) (by omega) (by omega) (by omega) (by omega) (by omega) (by omega) (by assumption) (by assumption)))); clear hK K)
            refine step_read 17 34 rfl rfl (by kernel_rfl) (by kernel_rfl) (by kernel_rfl) (fun _ _ _ h => h) (by rfl) (v := ?_) (fun w hSw => ?_) (by assumption) ?_; rotate_left; (focus ((try dsimp only at hSw); go_simp; first | done | exact rfl)); simp only [List.set]
            refine step_read 18 35 rfl rfl (by kernel_rfl) (by kernel_rfl) (by kernel_rfl) (fun _ _ _ h => h) (by rfl) (v := ?_) (fun w hSw => ?_) (by assumption) ?_; rotate_left; (focus ((try dsimp only at hSw); go_simp; first | done | exact rfl)); simp only [List.set]
            refine step_read 19 36 rfl rfl (by kernel_rfl) (by kernel_rfl) (by kernel_rfl) (fun _ _ _ h => h) (by rfl) (v := ?_) (fun w hSw => ?_) (by assumption) ?_; rotate_left; (focus ((try dsimp only at hSw); go_simp; first | done | exact rfl)); simp only [List.set]
            refine wpAnyH_done (by kernel_rfl) ?_ _
            go_wp2_with fail
            have hE := itk_out (by assumption) (rk6_out (by assumption)) (Nat.le_of_lt hsz)
            go_roundw
            case rel => exact ⟨k + 1, by omega, by go_num, TokRel.next HO.out Hc.out hE⟩
            case measure => simp [intOf]; omega
          · rw [Bool.not_eq_true] at ha
            have Hno : Hid (tok L = false) := tok_no (i := k) (by rw [Hn.out]; exact hlt) (by rw [Hch.out, ha])
            rw [ha] at hah
            simp only [Bool.not_false] at hah
            have hkk :  (wr.alloc (.cells #[.int .i64 a, .int .i64 b, .int .i64 c] 43)).cell? ⟨w.heap.size, 0, none⟩ = some (.slice (some ⟨g, 0, none⟩) n cap) ∧ (wr.alloc (.cells #[.int .i64 a, .int .i64 b, .int .i64 c] 43)).cell? ⟨wr.heap.size, 0, none⟩ = some (.int .i64 a) ∧ (wr.alloc (.cells #[.int .i64 a, .int .i64 b, .int .i64 c] 43)).cell? ⟨wr.heap.size, 1, none⟩ = some (.int .i64 b) ∧ (wr.alloc (.cells #[.int .i64 a, .int .i64 b, .int .i64 c] 43)).cell? ⟨wr.heap.size, 2, none⟩ = some (.int .i64 c) ∧ (wr.alloc (.cells #[.int .i64 a, .int .i64 b, .int .i64 c] 43)).cell? ⟨g, m * 3, none⟩ = some (.int .i64 a0) ∧ (wr.alloc (.cells #[.int .i64 a, .int .i64 b, .int .i64 c] 43)).cell? ⟨g, m * 3 + 1, none⟩ = some (.int .i64 b0) ∧ wr.heap.size < (wr.alloc (.cells #[.int .i64 a, .int .i64 b, .int .i64 c] 43)).heap.size ∧ Below w.heap.size w (wr.alloc (.cells #[.int .i64 a, .int .i64 b, .int .i64 c] 43)) := ⟨by rw [old_box (by omega)]; exact k0, by simp, by simp, by simp, by rw [old_box (by omega)]; exact k4, by rw [old_box (by omega)]; exact k5, by simp, hB.alloc (by omega) _⟩
            go_wp2_with fail
            refine wp_region_held_drew (S := (fun w' => w'.cell? ⟨w.heap.size, 0, none⟩ = some (.slice (some ⟨g, 0, none⟩) n cap) ∧ w'.cell? ⟨wr.heap.size, 0, none⟩ = some (.int .i64 a) ∧ w'.cell? ⟨wr.heap.size, 1, none⟩ = some (.int .i64 b) ∧ w'.cell? ⟨wr.heap.size, 2, none⟩ = some (.int .i64 c) ∧ w'.cell? ⟨g, m * 3, none⟩ = some (.int .i64 a0) ∧ w'.cell? ⟨g, m * 3 + 1, none⟩ = some (.int .i64 b0) ∧ wr.heap.size < w'.heap.size ∧ Below w.heap.size w w')) (by kernel_rfl) ?_ (fun hHeld => ?_)
            · (first | assumption | exact rk6_drew hkk | exact rk6_drew (by assumption) | exact rk6_keep (by omega) (by omega) (by omega) (by omega) (by omega) (by omega) (by omega) (by assumption) (by assumption))
            refine step_read 0 17 rfl rfl (by kernel_rfl) (by kernel_rfl) (by kernel_rfl) (fun _ _ _ h => h) (by rfl) (v := ?_) (fun w hSw => ?_) (by assumption) ?_; rotate_left; (focus ((try dsimp only at hSw); go_simp; first | done | exact rfl)); simp only [List.set]
            (refine wpAnyH_ready (rs := [1]) (by kernel_rfl) (by simp) ?_; refine AllReadyH.cons rfl (fun K hK => ?_) AllReadyH.nil; go_simp; (go_at_call 100; refine (routeOk_any a b c _).mono ?_; rw [hp]; rintro e w2 ⟨rfl, hb⟩); refine hK.out _ _ ?_ (fun hHeld => ?_); (focus ((first | assumption | exact rk6_drew hkk | exact rk6_drew (by assumption) | exact rk6_keep (by omega) (by omega) (by omega) (by omega) (by omega) (by omega) (by omega) (by assumption) (by assumption)))); clear hK K)
            refine step_read 2 19 rfl rfl (by kernel_rfl) (by kernel_rfl) (by kernel_rfl) (fun _ _ _ h => h) (by rfl) (v := ?_) (fun w hSw => ?_) (by assumption) ?_; rotate_left; (focus ((try dsimp only at hSw); go_simp; first | done | exact rfl)); simp only [List.set]
            refine step_read 3 20 rfl rfl (by kernel_rfl) (by kernel_rfl) (by kernel_rfl) (fun _ _ _ h => h) (by rfl) (v := ?_) (fun w hSw => ?_) (by assumption) ?_; rotate_left; (focus ((try dsimp only at hSw); go_simp; first | done | exact rfl)); simp only [List.set]
            refine step_read 4 21 rfl rfl (by kernel_rfl) (by kernel_rfl) (by kernel_rfl) (fun _ _ _ h => h) (by rfl) (v := ?_) (fun w hSw => ?_) (by assumption) ?_; rotate_left; (focus ((try dsimp only at hSw); go_simp; first | done | exact rfl)); simp only [List.set]
            refine step_read 5 22 rfl rfl (by kernel_rfl) (by kernel_rfl) (by kernel_rfl) (fun _ _ _ h => h) (by rfl) (v := ?_) (fun w hSw => ?_) (by assumption) ?_; rotate_left; (focus ((try dsimp only at hSw); go_simp; first | done | exact rfl)); simp only [List.set]
            refine step_read 6 23 rfl rfl (by kernel_rfl) (by kernel_rfl) (by kernel_rfl) (fun _ _ _ h => h) (by rfl) (v := ?_) (fun w hSw => ?_) (by assumption) ?_; rotate_left; (focus ((try dsimp only at hSw); go_simp; first | done | exact rfl)); simp only [List.set]
            refine step_read 7 24 rfl rfl (by kernel_rfl) (by kernel_rfl) (by kernel_rfl) (fun _ _ _ h => h) (by rfl) (v := ?_) (fun w hSw => ?_) (by assumption) ?_; rotate_left; (focus ((try dsimp only at hSw); go_simp; first | done | exact rfl)); simp only [List.set]
            refine step_read 8 25 rfl rfl (by kernel_rfl) (by kernel_rfl) (by kernel_rfl) (fun _ _ _ h => h) (by rfl) (v := ?_) (fun w hSw => ?_) (by assumption) ?_; rotate_left; (focus ((try dsimp only at hSw); go_simp; first | done | exact rfl)); simp only [List.set]
            refine step_read 9 26 rfl rfl (by kernel_rfl) (by kernel_rfl) (by kernel_rfl) (fun _ _ _ h => h) (by rfl) (v := ?_) (fun w hSw => ?_) (by assumption) ?_; rotate_left; (focus ((try dsimp only at hSw); go_simp; first | done | exact rfl)); simp only [List.set]
            refine step_read 10 27 rfl rfl (by kernel_rfl) (by kernel_rfl) (by kernel_rfl) (fun _ _ _ h => h) (by rfl) (v := ?_) (fun w hSw => ?_) (by assumption) ?_; rotate_left; (focus ((try dsimp only at hSw); go_simp; first | done | exact rfl)); simp only [List.set]
            refine step_read 11 28 rfl rfl (by kernel_rfl) (by kernel_rfl) (by kernel_rfl) (fun _ _ _ h => h) (by rfl) (v := ?_) (fun w hSw => ?_) (by assumption) ?_; rotate_left; (focus ((try dsimp only at hSw); go_simp; first | done | exact rfl)); simp only [List.set]
            refine step_read 12 29 rfl rfl (by kernel_rfl) (by kernel_rfl) (by kernel_rfl) (fun _ _ _ h => h) (by rfl) (v := ?_) (fun w hSw => ?_) (by assumption) ?_; rotate_left; (focus ((try dsimp only at hSw); go_simp; first | done | exact rfl)); simp only [List.set]
            refine step_read 13 30 rfl rfl (by kernel_rfl) (by kernel_rfl) (by kernel_rfl) (fun _ _ _ h => h) (by rfl) (v := ?_) (fun w hSw => ?_) (by assumption) ?_; rotate_left; (focus ((try dsimp only at hSw); go_simp; first | done | exact rfl)); simp only [List.set]
            refine step_read 14 31 rfl rfl (by kernel_rfl) (by kernel_rfl) (by kernel_rfl) (fun _ _ _ h => h) (by rfl) (v := ?_) (fun w hSw => ?_) (by assumption) ?_; rotate_left; (focus ((try dsimp only at hSw); go_simp; first | done | exact rfl)); simp only [List.set]
            refine step_read 15 32 rfl rfl (by kernel_rfl) (by kernel_rfl) (by kernel_rfl) (fun _ _ _ h => h) (by rfl) (v := ?_) (fun w hSw => ?_) (by assumption) ?_; rotate_left; (focus ((try dsimp only at hSw); go_simp; first | done | exact rfl)); simp only [List.set]
            (refine wpAnyH_ready (rs := [16]) (by kernel_rfl) (by simp) ?_; refine AllReadyH.cons rfl (fun K hK => ?_) AllReadyH.nil; go_simp; (go_at_call 83; refine (compare_any a0 b0 a b _).mono ?_; rintro e w2 ⟨rfl, hb⟩); refine hK.out _ _ ?_ (fun hHeld => ?_); (focus ((first | assumption | exact rk6_drew hkk | exact rk6_drew (by assumption) | exact rk6_keep (by omega) (by omega) (by omega) (by omega) (by omega) (by omega) (by omega) (by assumption) (by assumption)))); clear hK K)
            refine step_read 17 34 rfl rfl (by kernel_rfl) (by kernel_rfl) (by kernel_rfl) (fun _ _ _ h => h) (by rfl) (v := ?_) (fun w hSw => ?_) (by assumption) ?_; rotate_left; (focus ((try dsimp only at hSw); go_simp; first | done | exact rfl)); simp only [List.set]
            refine step_read 18 35 rfl rfl (by kernel_rfl) (by kernel_rfl) (by kernel_rfl) (fun _ _ _ h => h) (by rfl) (v := ?_) (fun w hSw => ?_) (by assumption) ?_; rotate_left; (focus ((try dsimp only at hSw); go_simp; first | done | exact rfl)); simp only [List.set]
            refine step_read 19 36 rfl rfl (by kernel_rfl) (by kernel_rfl) (by kernel_rfl) (fun _ _ _ h => h) (by rfl) (v := ?_) (fun w hSw => ?_) (by assumption) ?_; rotate_left; (focus ((try dsimp only at hSw); go_simp; first | done | exact rfl)); simp only [List.set]
            refine wpAnyH_done (by kernel_rfl) ?_ _
            go_wp2_with fail
            go_ret
            exact ⟨by rw [Hno.out]; rfl, (rk6_out (by assumption)).2⟩
      · rw [Bool.not_eq_true] at hp
        have Hno : Hid (tok L = false) := tok_no (i := k) (by rw [Hn.out]; exact hlt) (by rw [chk_at HL.out, hp, Bool.false_and])
        have hkk :  (wr.alloc (.cells #[.int .i64 a, .int .i64 b, .int .i64 c] 43)).cell? ⟨w.heap.size, 0, none⟩ = some (.slice (some ⟨g, 0, none⟩) n cap) ∧ (wr.alloc (.cells #[.int .i64 a, .int .i64 b, .int .i64 c] 43)).cell? ⟨wr.heap.size, 0, none⟩ = some (.int .i64 a) ∧ (wr.alloc (.cells #[.int .i64 a, .int .i64 b, .int .i64 c] 43)).cell? ⟨wr.heap.size, 1, none⟩ = some (.int .i64 b) ∧ (wr.alloc (.cells #[.int .i64 a, .int .i64 b, .int .i64 c] 43)).cell? ⟨wr.heap.size, 2, none⟩ = some (.int .i64 c) ∧ wr.heap.size < (wr.alloc (.cells #[.int .i64 a, .int .i64 b, .int .i64 c] 43)).heap.size ∧ Below w.heap.size w (wr.alloc (.cells #[.int .i64 a, .int .i64 b, .int .i64 c] 43)) := ⟨by rw [old_box (by omega)]; exact k0, by simp, by simp, by simp, by simp, hB.alloc (by omega) _⟩
        go_wp2_with fail
        refine wp_region_held_drew (S := (fun w' => w'.cell? ⟨w.heap.size, 0, none⟩ = some (.slice (some ⟨g, 0, none⟩) n cap) ∧ w'.cell? ⟨wr.heap.size, 0, none⟩ = some (.int .i64 a) ∧ w'.cell? ⟨wr.heap.size, 1, none⟩ = some (.int .i64 b) ∧ w'.cell? ⟨wr.heap.size, 2, none⟩ = some (.int .i64 c) ∧ wr.heap.size < w'.heap.size ∧ Below w.heap.size w w')) (by kernel_rfl) ?_ (fun hHeld => ?_)
        · (first | assumption | exact rk4_drew hkk | exact rk4_drew (by assumption) | exact rk4_keep (by omega) (by omega) (by omega) (by omega) (by omega) (by assumption) (by assumption))
        refine step_read 0 17 rfl rfl (by kernel_rfl) (by kernel_rfl) (by kernel_rfl) (fun _ _ _ h => h) (by rfl) (v := ?_) (fun w hSw => ?_) (by assumption) ?_; rotate_left; (focus ((try dsimp only at hSw); go_simp; first | done | exact rfl)); simp only [List.set]
        (refine wpAnyH_ready (rs := [1]) (by kernel_rfl) (by simp) ?_; refine AllReadyH.cons rfl (fun K hK => ?_) AllReadyH.nil; go_simp; (go_at_call 100; refine (routeOk_any a b c _).mono ?_; rw [hp]; rintro e w2 ⟨rfl, hb⟩); refine hK.out _ _ ?_ (fun hHeld => ?_); (focus ((first | assumption | exact rk4_drew hkk | exact rk4_drew (by assumption) | exact rk4_keep (by omega) (by omega) (by omega) (by omega) (by omega) (by assumption) (by assumption)))); clear hK K)
        refine step_read 2 19 rfl rfl (by kernel_rfl) (by kernel_rfl) (by kernel_rfl) (fun _ _ _ h => h) (by rfl) (v := ?_) (fun w hSw => ?_) (by assumption) ?_; rotate_left; (focus ((try dsimp only at hSw); go_simp; first | done | exact rfl)); simp only [List.set]
        refine step_read 3 20 rfl rfl (by kernel_rfl) (by kernel_rfl) (by kernel_rfl) (fun _ _ _ h => h) (by rfl) (v := ?_) (fun w hSw => ?_) (by assumption) ?_; rotate_left; (focus ((try dsimp only at hSw); go_simp; first | done | exact rfl)); simp only [List.set]
        refine step_skip 4 21 rfl rfl (by kernel_rfl) (by kernel_rfl) (by kernel_rfl) (fun _ _ _ h => h) (by rfl) (by assumption) ?_; simp only [List.set]
        refine step_skip 5 22 rfl rfl (by kernel_rfl) (by kernel_rfl) (by kernel_rfl) (fun _ _ _ h => h) (by rfl) (by assumption) ?_; simp only [List.set]
        refine step_skip 6 23 rfl rfl (by kernel_rfl) (by kernel_rfl) (by kernel_rfl) (fun _ _ _ h => h) (by rfl) (by assumption) ?_; simp only [List.set]
        refine step_skip 7 24 rfl rfl (by kernel_rfl) (by kernel_rfl) (by kernel_rfl) (fun _ _ _ h => h) (by rfl) (by assumption) ?_; simp only [List.set]
        refine step_skip 8 25 rfl rfl (by kernel_rfl) (by kernel_rfl) (by kernel_rfl) (fun _ _ _ h => h) (by rfl) (by assumption) ?_; simp only [List.set]
        refine step_skip 9 26 rfl rfl (by kernel_rfl) (by kernel_rfl) (by kernel_rfl) (fun _ _ _ h => h) (by rfl) (by assumption) ?_; simp only [List.set]
        refine step_skip 10 27 rfl rfl (by kernel_rfl) (by kernel_rfl) (by kernel_rfl) (fun _ _ _ h => h) (by rfl) (by assumption) ?_; simp only [List.set]
        refine step_skip 11 28 rfl rfl (by kernel_rfl) (by kernel_rfl) (by kernel_rfl) (fun _ _ _ h => h) (by rfl) (by assumption) ?_; simp only [List.set]
        refine step_skip 12 29 rfl rfl (by kernel_rfl) (by kernel_rfl) (by kernel_rfl) (fun _ _ _ h => h) (by rfl) (by assumption) ?_; simp only [List.set]
        refine step_skip 13 30 rfl rfl (by kernel_rfl) (by kernel_rfl) (by kernel_rfl) (fun _ _ _ h => h) (by rfl) (by assumption) ?_; simp only [List.set]
        refine step_skip 14 31 rfl rfl (by kernel_rfl) (by kernel_rfl) (by kernel_rfl) (fun _ _ _ h => h) (by rfl) (by assumption) ?_; simp only [List.set]
        refine step_skip 15 32 rfl rfl (by kernel_rfl) (by kernel_rfl) (by kernel_rfl) (fun _ _ _ h => h) (by rfl) (by assumption) ?_; simp only [List.set]
        refine step_skip 16 33 rfl rfl (by kernel_rfl) (by kernel_rfl) (by kernel_rfl) (fun _ _ _ h => h) (by rfl) (by assumption) ?_; simp only [List.set]
        refine step_skip 17 34 rfl rfl (by kernel_rfl) (by kernel_rfl) (by kernel_rfl) (fun _ _ _ h => h) (by rfl) (by assumption) ?_; simp only [List.set]
        refine step_skip 18 35 rfl rfl (by kernel_rfl) (by kernel_rfl) (by kernel_rfl) (fun _ _ _ h => h) (by rfl) (by assumption) ?_; simp only [List.set]
        refine step_read 19 36 rfl rfl (by kernel_rfl) (by kernel_rfl) (by kernel_rfl) (fun _ _ _ h => h) (by rfl) (v := ?_) (fun w hSw => ?_) (by assumption) ?_; rotate_left; (focus ((try dsimp only at hSw); go_simp; first | done | exact rfl)); simp only [List.set]
        refine wpAnyH_done (by kernel_rfl) ?_ _
        go_wp2_with fail
        go_ret
        exact ⟨by rw [Hno.out]; rfl, (rk4_out (by assumption)).2⟩
    · have hge : ¬ ((k : Int) < (n : Int)) := by omega
      obtain rfl : k = n := by omega
      have Hy : Hid (tok L = true) := tok_yes (by rw [Hn.out]; exact h120) (fun i hi => hR.out.1 i (by rw [Hn.out] at hi; exact hi))
      have k0 := hR.out.2.1
      have HB := Lib.hid hR.out.2.2.2
      clear hR
      go_wp2
      go_ret
      exact ⟨by rw [Hy.out]; rfl, HB.out⟩

set_option maxHeartbeats 1000000 in
theorem stok_nil (a : Option Addr) (c : Nat) (w : World) :
    Calls Try.prog 39 #[.agg #[.slice a 0 c]] w fun e w' => e = .returned (.bool true) ∧ Below w.heap.size w w' := by
  go_enter Try.func39, Try.ntmps39
  go_wp2
  go_loop [3] (fun i => i = .int .i64 0) (fun i => (intOf i).toNat)
  case atStart => exact rfl
  case round =>
    subst hrel
    go_wp2
    go_ret
    exact ⟨rfl, by go_grown⟩

set_option maxHeartbeats 1000000 in
theorem stok_big (a : Option Addr) (n c : Nat) (w : World) (h : 120 < n) (hn : n ≤ 1100000) :
    Calls Try.prog 39 #[.agg #[.slice a n c]] w fun e w' => e = .returned (.bool false) ∧ Below w.heap.size w w' := by
  have h1 : (120 : Int) < (n : Int) := by omega
  go_enter Try.func39, Try.ntmps39
  go_wp2
  go_ret
  exact ⟨rfl, by go_grown⟩

/-- The model says of every table whether it is valid. -/
theorem stok_any (lo hi n : Nat) (v : Value) (L : List Rt) (w : World) (hL : L.length = n) (hr : Row 3 w lo hi v n (flat L)) (hh : hi ≤ w.heap.size) :
    Calls Try.prog 39 #[.agg #[v]] w fun e w' => e = .returned (.bool (tok L)) ∧ Below w.heap.size w w' := by
  rcases hr.2 with ⟨rfl, a, c, rfl⟩ | ⟨g, cap, rfl, h1, h2, h3, h4, h5⟩
  · have : L = [] := List.eq_nil_of_length_eq_zero hL
    subst this
    exact stok_nil a c w
  · by_cases h120 : n ≤ 120
    · exact stok_some g n cap L w hL h120 (by omega) h4
    · rw [tok_big (by omega)]
      exact stok_big _ n cap w (by omega) h3

set_option maxHeartbeats 1000000 in
theorem itok_nil (a : Option Addr) (c : Nat) (w : World) :
    Calls Try.prog 56 #[.agg #[.slice a 0 c]] w fun e w' => e = .returned (.bool true) ∧ Below w.heap.size w w' := by
  go_enter Try.func56, Try.ntmps56
  go_wp2
  go_loop [12] (fun i => i = .int .i64 0) (fun i => (intOf i).toNat)
  case atStart => exact rfl
  case round =>
    subst hrel
    go_wp2
    go_ret
    exact ⟨rfl, by go_grown⟩

set_option maxHeartbeats 1000000 in
theorem itok_big (a : Option Addr) (n c : Nat) (w : World) (h : 120 < n) (hn : n ≤ 1100000) :
    Calls Try.prog 56 #[.agg #[.slice a n c]] w fun e w' => e = .returned (.bool false) ∧ Below w.heap.size w w' := by
  have h1 : (120 : Int) < (n : Int) := by omega
  go_enter Try.func56, Try.ntmps56
  go_wp2
  go_ret
  exact ⟨rfl, by go_grown⟩

/-- The program says of every table whether it is valid. -/
theorem itok_any (lo hi n : Nat) (v : Value) (L : List Rt) (w : World) (hL : L.length = n) (hr : Row 3 w lo hi v n (flat L)) (hh : hi ≤ w.heap.size) :
    Calls Try.prog 56 #[.agg #[v]] w fun e w' => e = .returned (.bool (tok L)) ∧ Below w.heap.size w w' := by
  rcases hr.2 with ⟨rfl, a, c, rfl⟩ | ⟨g, cap, rfl, h1, h2, h3, h4, h5⟩
  · have : L = [] := List.eq_nil_of_length_eq_zero hL
    subst this
    exact itok_nil a c w
  · by_cases h120 : n ≤ 120
    · exact itok_some g n cap L w hL h120 (by omega) h4
    · rw [tok_big (by omega)]
      exact itok_big _ n cap w (by omega) h3

end Go.Proofs.Ytgdnfglhlpnooaa
