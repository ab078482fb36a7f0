/- WayCost of the program: what it refuses. -/
import Derived.Test.YtflhbfndfjkfgaaQW8
import Derived.Test.YtflhbfndfjkfgaaReg
namespace Go.Proofs.Ytflhbfndfjkfgaa
open Go.RowKit


set_option maxHeartbeats 2000000 in
theorem iwc_g (N : Int) (lo hi n : Nat) (v : Value) (L : List Ed) (nw : Nat) (aw : Option Addr) (cw : Nat) (w : World) (hL : L.length = n) (hr : Row 3 w lo hi v n (flat L)) (hh : hi ≤ w.heap.size) (hG : gok N L = false) :
    Calls Try.prog 40 #[.agg #[.int .i64 N, v], .slice aw nw cw] w fun e w' => e = .returned (.int .i64 (-1)) ∧ Below w.heap.size w w' := by
  have HR := Lib.hid hr
  obtain ⟨ad, cp, rfl⟩ := hr.slice
  clear hr
  have hkk :  (w.alloc (.cells #[.int .i64 N, .slice ad n cp] 41)).cell? ⟨w.heap.size, 0, none⟩ = some (.int .i64 N) ∧ (w.alloc (.cells #[.int .i64 N, .slice ad n cp] 41)).cell? ⟨w.heap.size, 1, none⟩ = some (.slice ad n cp) ∧ w.heap.size < (w.alloc (.cells #[.int .i64 N, .slice ad n cp] 41)).heap.size ∧ Below w.heap.size w (w.alloc (.cells #[.int .i64 N, .slice ad n cp] 41)) := ⟨by simp, by simp, by simp, by go_grown⟩
  go_enter Try.func40, Try.ntmps40
  go_wp2_with fail
  refine wp_region_held_drew (S := (fun w' => w'.cell? ⟨w.heap.size, 0, none⟩ = some (.int .i64 N) ∧ w'.cell? ⟨w.heap.size, 1, none⟩ = some (.slice ad n cp) ∧ w.heap.size < w'.heap.size ∧ Below w.heap.size w w')) (by kernel_rfl) ?_ (fun hHeld => ?_)
  · (first | assumption | exact rk2_drew hkk | exact rk2_drew (by assumption) | exact rk2_keep (by omega) (by omega) (by omega) (by assumption) (by assumption))
  refine step_read 0 10 rfl rfl (by kernel_rfl) (by kernel_rfl) (by kernel_rfl) (fun _ _ _ h => h) (by rfl) (v := ?_) (fun w hSw => ?_) (by assumption) ?_; rotate_left; (focus ((try dsimp only at hSw); go_simp; first | done | exact rfl)); simp only [List.set]
  (refine wpAnyH_ready (rs := [1]) (by kernel_rfl) (by simp) ?_; refine AllReadyH.cons rfl (fun K hK => ?_) AllReadyH.nil; go_simp; (go_at_call 59; refine (igok_any N lo hi n _ L _ hL (HR.out.below (rk2_out (by assumption)).2 hh) (by have hq := (rk2_out (by assumption)).1; omega)).mono ?_; rw [hG]; rintro e w2 ⟨rfl, hb⟩); refine hK.out _ _ ?_ (fun hHeld => ?_); (focus ((first | assumption | exact rk2_drew hkk | exact rk2_drew (by assumption) | exact rk2_keep (by omega) (by omega) (by omega) (by assumption) (by assumption)))); clear hK K)
  refine step_read 2 12 rfl rfl (by kernel_rfl) (by kernel_rfl) (by kernel_rfl) (fun _ _ _ h => h) (by rfl) (v := ?_) (fun w hSw => ?_) (by assumption) ?_; rotate_left; (focus ((try dsimp only at hSw); go_simp; first | done | exact rfl)); simp only [List.set]
  refine step_read 3 13 rfl rfl (by kernel_rfl) (by kernel_rfl) (by kernel_rfl) (fun _ _ _ h => h) (by rfl) (v := ?_) (fun w hSw => ?_) (by assumption) ?_; rotate_left; (focus ((try dsimp only at hSw); go_simp; first | done | exact rfl)); simp only [List.set]
  refine step_skip 4 14 rfl rfl (by kernel_rfl) (by kernel_rfl) (by kernel_rfl) (fun _ _ _ h => h) (by rfl) (by assumption) ?_; simp only [List.set]
  refine step_skip 5 15 rfl rfl (by kernel_rfl) (by kernel_rfl) (by kernel_rfl) (fun _ _ _ h => h) (by rfl) (by assumption) ?_; simp only [List.set]
  refine step_skip 6 16 rfl rfl (by kernel_rfl) (by kernel_rfl) (by kernel_rfl) (fun _ _ _ h => h) (by rfl) (by assumption) ?_; simp only [List.set]
  refine step_read 7 17 rfl rfl (by kernel_rfl) (by kernel_rfl) (by kernel_rfl) (fun _ _ _ h => h) (by rfl) (v := ?_) (fun w hSw => ?_) (by assumption) ?_; rotate_left; (focus ((try dsimp only at hSw); go_simp; first | done | exact rfl)); simp only [List.set]
  refine step_read 8 18 rfl rfl (by kernel_rfl) (by kernel_rfl) (by kernel_rfl) (fun _ _ _ h => h) (by rfl) (v := ?_) (fun w hSw => ?_) (by assumption) ?_; rotate_left; (focus ((try dsimp only at hSw); go_simp; first | done | exact rfl)); simp only [List.set]
  refine step_skip 9 19 rfl rfl (by kernel_rfl) (by kernel_rfl) (by kernel_rfl) (fun _ _ _ h => h) (by rfl) (by assumption) ?_; simp only [List.set]
  refine step_skip 10 20 rfl rfl (by kernel_rfl) (by kernel_rfl) (by kernel_rfl) (fun _ _ _ h => h) (by rfl) (by assumption) ?_; simp only [List.set]
  refine step_skip 11 21 rfl rfl (by kernel_rfl) (by kernel_rfl) (by kernel_rfl) (fun _ _ _ h => h) (by rfl) (by assumption) ?_; simp only [List.set]
  refine step_read 12 22 rfl rfl (by kernel_rfl) (by kernel_rfl) (by kernel_rfl) (fun _ _ _ h => h) (by rfl) (v := ?_) (fun w hSw => ?_) (by assumption) ?_; rotate_left; (focus ((try dsimp only at hSw); go_simp; first | done | exact rfl)); simp only [List.set]
  refine step_read 13 23 rfl rfl (by kernel_rfl) (by kernel_rfl) (by kernel_rfl) (fun _ _ _ h => h) (by rfl) (v := ?_) (fun w hSw => ?_) (by assumption) ?_; rotate_left; (focus ((try dsimp only at hSw); go_simp; first | done | exact rfl)); simp only [List.set]
  refine step_skip 14 24 rfl rfl (by kernel_rfl) (by kernel_rfl) (by kernel_rfl) (fun _ _ _ h => h) (by rfl) (by assumption) ?_; simp only [List.set]
  refine step_skip 15 25 rfl rfl (by kernel_rfl) (by kernel_rfl) (by kernel_rfl) (fun _ _ _ h => h) (by rfl) (by assumption) ?_; simp only [List.set]
  refine step_skip 16 26 rfl rfl (by kernel_rfl) (by kernel_rfl) (by kernel_rfl) (fun _ _ _ h => h) (by rfl) (by assumption) ?_; simp only [List.set]
  refine step_skip 17 27 rfl rfl (by kernel_rfl) (by kernel_rfl) (by kernel_rfl) (fun _ _ _ h => h) (by rfl) (by assumption) ?_; simp only [List.set]
  refine step_skip 18 28 rfl rfl (by kernel_rfl) (by kernel_rfl) (by kernel_rfl) (fun _ _ _ h => h) (by rfl) (by assumption) ?_; simp only [List.set]
  refine step_skip 19 29 rfl rfl (by kernel_rfl) (by kernel_rfl) (by kernel_rfl) (fun _ _ _ h => h) (by rfl) (by assumption) ?_; simp only [List.set]
  refine step_read 20 30 rfl rfl (by kernel_rfl) (by kernel_rfl) (by kernel_rfl) (fun _ _ _ h => h) (by rfl) (v := ?_) (fun w hSw => ?_) (by assumption) ?_; rotate_left; (focus ((try dsimp only at hSw); go_simp; first | done | exact rfl)); simp only [List.set]
  refine wpAnyH_done (by kernel_rfl) ?_ _
  go_wp2_with fail
  go_ret
  exact ⟨rfl, (rk2_out (by assumption)).2⟩

set_option maxHeartbeats 2000000 in
theorem iwc_0 (N : Int) (lo hi n : Nat) (v : Value) (L : List Ed) (nw : Nat) (aw : Option Addr) (cw : Nat) (w : World) (hL : L.length = n) (hr : Row 3 w lo hi v n (flat L)) (hh : hi ≤ w.heap.size) (hG : gok N L = true) (h0 : nw = 0) :
    Calls Try.prog 40 #[.agg #[.int .i64 N, v], .slice aw nw cw] w fun e w' => e = .returned (.int .i64 (-1)) ∧ Below w.heap.size w w' := by
  have HR := Lib.hid hr
  obtain ⟨ad, cp, rfl⟩ := hr.slice
  clear hr
  subst h0
  have hkk :  (w.alloc (.cells #[.int .i64 N, .slice ad n cp] 41)).cell? ⟨w.heap.size, 0, none⟩ = some (.int .i64 N) ∧ (w.alloc (.cells #[.int .i64 N, .slice ad n cp] 41)).cell? ⟨w.heap.size, 1, none⟩ = some (.slice ad n cp) ∧ w.heap.size < (w.alloc (.cells #[.int .i64 N, .slice ad n cp] 41)).heap.size ∧ Below w.heap.size w (w.alloc (.cells #[.int .i64 N, .slice ad n cp] 41)) := ⟨by simp, by simp, by simp, by go_grown⟩
  go_enter Try.func40, Try.ntmps40
  go_wp2_with fail
  refine wp_region_held_drew (S := (fun w' => w'.cell? ⟨w.heap.size, 0, none⟩ = some (.int .i64 N) ∧ w'.cell? ⟨w.heap.size, 1, none⟩ = some (.slice ad n cp) ∧ w.heap.size < w'.heap.size ∧ Below w.heap.size w w')) (by kernel_rfl) ?_ (fun hHeld => ?_)
  · (first | assumption | exact rk2_drew hkk | exact rk2_drew (by assumption) | exact rk2_keep (by omega) (by omega) (by omega) (by assumption) (by assumption))
  refine step_read 0 10 rfl rfl (by kernel_rfl) (by kernel_rfl) (by kernel_rfl) (fun _ _ _ h => h) (by rfl) (v := ?_) (fun w hSw => ?_) (by assumption) ?_; rotate_left; (focus ((try dsimp only at hSw); go_simp; first | done | exact rfl)); simp only [List.set]
  (refine wpAnyH_ready (rs := [1]) (by kernel_rfl) (by simp) ?_; refine AllReadyH.cons rfl (fun K hK => ?_) AllReadyH.nil; go_simp; (go_at_call 59; refine (igok_any N lo hi n _ L _ hL (HR.out.below (rk2_out (by assumption)).2 hh) (by have hq := (rk2_out (by assumption)).1; omega)).mono ?_; rw [hG]; rintro e w2 ⟨rfl, hb⟩); refine hK.out _ _ ?_ (fun hHeld => ?_); (focus ((first | assumption | exact rk2_drew hkk | exact rk2_drew (by assumption) | exact rk2_keep (by omega) (by omega) (by omega) (by assumption) (by assumption)))); clear hK K)
  refine step_read 2 12 rfl rfl (by kernel_rfl) (by kernel_rfl) (by kernel_rfl) (fun _ _ _ h => h) (by rfl) (v := ?_) (fun w hSw => ?_) (by assumption) ?_; rotate_left; (focus ((try dsimp only at hSw); go_simp; first | done | exact rfl)); simp only [List.set]
  refine step_read 3 13 rfl rfl (by kernel_rfl) (by kernel_rfl) (by kernel_rfl) (fun _ _ _ h => h) (by rfl) (v := ?_) (fun w hSw => ?_) (by assumption) ?_; rotate_left; (focus ((try dsimp only at hSw); go_simp; first | done | exact rfl)); simp only [List.set]
  refine step_read 4 14 rfl rfl (by kernel_rfl) (by kernel_rfl) (by kernel_rfl) (fun _ _ _ h => h) (by rfl) (v := ?_) (fun w hSw => ?_) (by assumption) ?_; rotate_left; (focus ((try dsimp only at hSw); go_simp; first | done | exact rfl)); simp only [List.set]
  refine step_read 5 15 rfl rfl (by kernel_rfl) (by kernel_rfl) (by kernel_rfl) (fun _ _ _ h => h) (by rfl) (v := ?_) (fun w hSw => ?_) (by assumption) ?_; rotate_left; (focus ((try dsimp only at hSw); go_simp; first | done | exact rfl)); simp only [List.set]
  refine step_read 6 16 rfl rfl (by kernel_rfl) (by kernel_rfl) (by kernel_rfl) (fun _ _ _ h => h) (by rfl) (v := ?_) (fun w hSw => ?_) (by assumption) ?_; rotate_left; (focus ((try dsimp only at hSw); go_simp; first | done | exact rfl)); simp only [List.set]
  refine step_read 7 17 rfl rfl (by kernel_rfl) (by kernel_rfl) (by kernel_rfl) (fun _ _ _ h => h) (by rfl) (v := ?_) (fun w hSw => ?_) (by assumption) ?_; rotate_left; (focus ((try dsimp only at hSw); go_simp; first | done | exact rfl)); simp only [List.set]
  refine step_read 8 18 rfl rfl (by kernel_rfl) (by kernel_rfl) (by kernel_rfl) (fun _ _ _ h => h) (by rfl) (v := ?_) (fun w hSw => ?_) (by assumption) ?_; rotate_left; (focus ((try dsimp only at hSw); go_simp; first | done | exact rfl)); simp only [List.set]
  refine step_skip 9 19 rfl rfl (by kernel_rfl) (by kernel_rfl) (by kernel_rfl) (fun _ _ _ h => h) (by rfl) (by assumption) ?_; simp only [List.set]
  refine step_skip 10 20 rfl rfl (by kernel_rfl) (by kernel_rfl) (by kernel_rfl) (fun _ _ _ h => h) (by rfl) (by assumption) ?_; simp only [List.set]
  refine step_skip 11 21 rfl rfl (by kernel_rfl) (by kernel_rfl) (by kernel_rfl) (fun _ _ _ h => h) (by rfl) (by assumption) ?_; simp only [List.set]
  refine step_read 12 22 rfl rfl (by kernel_rfl) (by kernel_rfl) (by kernel_rfl) (fun _ _ _ h => h) (by rfl) (v := ?_) (fun w hSw => ?_) (by assumption) ?_; rotate_left; (focus ((try dsimp only at hSw); go_simp; first | done | exact rfl)); simp only [List.set]
  refine step_read 13 23 rfl rfl (by kernel_rfl) (by kernel_rfl) (by kernel_rfl) (fun _ _ _ h => h) (by rfl) (v := ?_) (fun w hSw => ?_) (by assumption) ?_; rotate_left; (focus ((try dsimp only at hSw); go_simp; first | done | exact rfl)); simp only [List.set]
  refine step_skip 14 24 rfl rfl (by kernel_rfl) (by kernel_rfl) (by kernel_rfl) (fun _ _ _ h => h) (by rfl) (by assumption) ?_; simp only [List.set]
  refine step_skip 15 25 rfl rfl (by kernel_rfl) (by kernel_rfl) (by kernel_rfl) (fun _ _ _ h => h) (by rfl) (by assumption) ?_; simp only [List.set]
  refine step_skip 16 26 rfl rfl (by kernel_rfl) (by kernel_rfl) (by kernel_rfl) (fun _ _ _ h => h) (by rfl) (by assumption) ?_; simp only [List.set]
  refine step_skip 17 27 rfl rfl (by kernel_rfl) (by kernel_rfl) (by kernel_rfl) (fun _ _ _ h => h) (by rfl) (by assumption) ?_; simp only [List.set]
  refine step_skip 18 28 rfl rfl (by kernel_rfl) (by kernel_rfl) (by kernel_rfl) (fun _ _ _ h => h) (by rfl) (by assumption) ?_; simp only [List.set]
  refine step_skip 19 29 rfl rfl (by kernel_rfl) (by kernel_rfl) (by kernel_rfl) (fun _ _ _ h => h) (by rfl) (by assumption) ?_; simp only [List.set]
  refine step_read 20 30 rfl rfl (by kernel_rfl) (by kernel_rfl) (by kernel_rfl) (fun _ _ _ h => h) (by rfl) (v := ?_) (fun w hSw => ?_) (by assumption) ?_; rotate_left; (focus ((try dsimp only at hSw); go_simp; first | done | exact rfl)); simp only [List.set]
  refine wpAnyH_done (by kernel_rfl) ?_ _
  go_wp2_with fail
  go_ret
  exact ⟨rfl, (rk2_out (by assumption)).2⟩

set_option maxHeartbeats 2000000 in
theorem iwc_big (N : Int) (lo hi n : Nat) (v : Value) (L : List Ed) (nw : Nat) (aw : Option Addr) (cw : Nat) (w : World) (hL : L.length = n) (hr : Row 3 w lo hi v n (flat L)) (hh : hi ≤ w.heap.size) (hG : gok N L = true) (h0 : 300 < nw) (h1 : nw ≤ 1100000) :
    Calls Try.prog 40 #[.agg #[.int .i64 N, v], .slice aw nw cw] w fun e w' => e = .returned (.int .i64 (-1)) ∧ Below w.heap.size w w' := by
  have HR := Lib.hid hr
  obtain ⟨ad, cp, rfl⟩ := hr.slice
  clear hr
  have h2 : (300 : Int) < (nw : Int) := by omega
  have h3 : ((nw : Int) == 0) = false := by simp; omega
  have h4 : decide (300 < nw) = true := decide_eq_true h0
  have hkk :  (w.alloc (.cells #[.int .i64 N, .slice ad n cp] 41)).cell? ⟨w.heap.size, 0, none⟩ = some (.int .i64 N) ∧ (w.alloc (.cells #[.int .i64 N, .slice ad n cp] 41)).cell? ⟨w.heap.size, 1, none⟩ = some (.slice ad n cp) ∧ w.heap.size < (w.alloc (.cells #[.int .i64 N, .slice ad n cp] 41)).heap.size ∧ Below w.heap.size w (w.alloc (.cells #[.int .i64 N, .slice ad n cp] 41)) := ⟨by simp, by simp, by simp, by go_grown⟩
  go_enter Try.func40, Try.ntmps40
  go_wp2_with fail
  refine wp_region_held_drew (S := (fun w' => w'.cell? ⟨w.heap.size, 0, none⟩ = some (.int .i64 N) ∧ w'.cell? ⟨w.heap.size, 1, none⟩ = some (.slice ad n cp) ∧ w.heap.size < w'.heap.size ∧ Below w.heap.size w w')) (by kernel_rfl) ?_ (fun hHeld => ?_)
  · (first | assumption | exact rk2_drew hkk | exact rk2_drew (by assumption) | exact rk2_keep (by omega) (by omega) (by omega) (by assumption) (by assumption))
  refine step_read 0 10 rfl rfl (by kernel_rfl) (by kernel_rfl) (by kernel_rfl) (fun _ _ _ h => h) (by rfl) (v := ?_) (fun w hSw => ?_) (by assumption) ?_; rotate_left; (focus ((try dsimp only at hSw); go_simp; first | done | exact rfl)); simp only [List.set]
  (refine wpAnyH_ready (rs := [1]) (by kernel_rfl) (by simp) ?_; refine AllReadyH.cons rfl (fun K hK => ?_) AllReadyH.nil; go_simp; (go_at_call 59; refine (igok_any N lo hi n _ L _ hL (HR.out.below (rk2_out (by assumption)).2 hh) (by have hq := (rk2_out (by assumption)).1; omega)).mono ?_; rw [hG]; rintro e w2 ⟨rfl, hb⟩); refine hK.out _ _ ?_ (fun hHeld => ?_); (focus ((first | assumption | exact rk2_drew hkk | exact rk2_drew (by assumption) | exact rk2_keep (by omega) (by omega) (by omega) (by assumption) (by assumption)))); clear hK K)
  refine step_read 2 12 rfl rfl (by kernel_rfl) (by kernel_rfl) (by kernel_rfl) (fun _ _ _ h => h) (by rfl) (v := ?_) (fun w hSw => ?_) (by assumption) ?_; rotate_left; (focus ((try dsimp only at hSw); go_simp; first | done | exact rfl)); simp only [List.set]
  refine step_read 3 13 rfl rfl (by kernel_rfl) (by kernel_rfl) (by kernel_rfl) (fun _ _ _ h => h) (by rfl) (v := ?_) (fun w hSw => ?_) (by assumption) ?_; rotate_left; (focus ((try dsimp only at hSw); go_simp; first | done | exact rfl)); simp only [List.set]
  refine step_read 4 14 rfl rfl (by kernel_rfl) (by kernel_rfl) (by kernel_rfl) (fun _ _ _ h => h) (by rfl) (v := ?_) (fun w hSw => ?_) (by assumption) ?_; rotate_left; (focus ((try dsimp only at hSw); go_simp; first | done | exact rfl)); simp only [List.set]
  refine step_read 5 15 rfl rfl (by kernel_rfl) (by kernel_rfl) (by kernel_rfl) (fun _ _ _ h => h) (by rfl) (v := ?_) (fun w hSw => ?_) (by assumption) ?_; rotate_left; (focus ((try dsimp only at hSw); go_simp; first | done | exact rfl)); simp only [List.set]
  refine step_read 6 16 rfl rfl (by kernel_rfl) (by kernel_rfl) (by kernel_rfl) (fun _ _ _ h => h) (by rfl) (v := ?_) (fun w hSw => ?_) (by assumption) ?_; rotate_left; (focus ((try dsimp only at hSw); go_simp; first | done | exact rfl)); simp only [List.set]
  refine step_read 7 17 rfl rfl (by kernel_rfl) (by kernel_rfl) (by kernel_rfl) (fun _ _ _ h => h) (by rfl) (v := ?_) (fun w hSw => ?_) (by assumption) ?_; rotate_left; (focus ((try dsimp only at hSw); go_simp; first | done | exact rfl)); simp only [List.set]
  refine step_read 8 18 rfl rfl (by kernel_rfl) (by kernel_rfl) (by kernel_rfl) (fun _ _ _ h => h) (by rfl) (v := ?_) (fun w hSw => ?_) (by assumption) ?_; rotate_left; (focus ((try dsimp only at hSw); go_simp; first | done | exact rfl)); simp only [List.set]
  refine step_read 9 19 rfl rfl (by kernel_rfl) (by kernel_rfl) (by kernel_rfl) (fun _ _ _ h => h) (by rfl) (v := ?_) (fun w hSw => ?_) (by assumption) ?_; rotate_left; (focus ((try dsimp only at hSw); go_simp; first | done | exact rfl)); simp only [List.set]
  refine step_read 10 20 rfl rfl (by kernel_rfl) (by kernel_rfl) (by kernel_rfl) (fun _ _ _ h => h) (by rfl) (v := ?_) (fun w hSw => ?_) (by assumption) ?_; rotate_left; (focus ((try dsimp only at hSw); go_simp; first | done | exact rfl)); simp only [List.set]
  refine step_read 11 21 rfl rfl (by kernel_rfl) (by kernel_rfl) (by kernel_rfl) (fun _ _ _ h => h) (by rfl) (v := ?_) (fun w hSw => ?_) (by assumption) ?_; rotate_left; (focus ((try dsimp only at hSw); go_simp; first | done | exact rfl)); simp only [List.set]
  refine step_read 12 22 rfl rfl (by kernel_rfl) (by kernel_rfl) (by kernel_rfl) (fun _ _ _ h => h) (by rfl) (v := ?_) (fun w hSw => ?_) (by assumption) ?_; rotate_left; (focus ((try dsimp only at hSw); go_simp; first | done | exact rfl)); simp only [List.set]
  refine step_read 13 23 rfl rfl (by kernel_rfl) (by kernel_rfl) (by kernel_rfl) (fun _ _ _ h => h) (by rfl) (v := ?_) (fun w hSw => ?_) (by assumption) ?_; rotate_left; (focus ((try dsimp only at hSw); go_simp; first | done | exact rfl)); simp only [List.set]
  refine step_skip 14 24 rfl rfl (by kernel_rfl) (by kernel_rfl) (by kernel_rfl) (fun _ _ _ h => h) (by rfl) (by assumption) ?_; simp only [List.set]
  refine step_skip 15 25 rfl rfl (by kernel_rfl) (by kernel_rfl) (by kernel_rfl) (fun _ _ _ h => h) (by rfl) (by assumption) ?_; simp only [List.set]
  refine step_skip 16 26 rfl rfl (by kernel_rfl) (by kernel_rfl) (by kernel_rfl) (fun _ _ _ h => h) (by rfl) (by assumption) ?_; simp only [List.set]
  refine step_skip 17 27 rfl rfl (by kernel_rfl) (by kernel_rfl) (by kernel_rfl) (fun _ _ _ h => h) (by rfl) (by assumption) ?_; simp only [List.set]
  refine step_skip 18 28 rfl rfl (by kernel_rfl) (by kernel_rfl) (by kernel_rfl) (fun _ _ _ h => h) (by rfl) (by assumption) ?_; simp only [List.set]
  refine step_skip 19 29 rfl rfl (by kernel_rfl) (by kernel_rfl) (by kernel_rfl) (fun _ _ _ h => h) (by rfl) (by assumption) ?_; simp only [List.set]
  refine step_read 20 30 rfl rfl (by kernel_rfl) (by kernel_rfl) (by kernel_rfl) (fun _ _ _ h => h) (by rfl) (v := ?_) (fun w hSw => ?_) (by assumption) ?_; rotate_left; (focus ((try dsimp only at hSw); go_simp; first | done | exact rfl)); simp only [List.set]
  refine wpAnyH_done (by kernel_rfl) ?_ _
  go_wp2_with fail
  go_ret
  exact ⟨rfl, (rk2_out (by assumption)).2⟩

end Go.Proofs.Ytflhbfndfjkfgaa
