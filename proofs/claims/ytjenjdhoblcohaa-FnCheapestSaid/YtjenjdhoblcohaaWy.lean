/- WayCost of the program. -/
import Derived.Test.YtjenjdhoblcohaaTl
import Derived.Test.YtjenjdhoblcohaaReg
namespace Go.Proofs.Ytjenjdhoblcohaa
open Go.RowKit



def wat (W : List Int) (i : Nat) : Int := W.getD i 0
theorem wat_at {W : List Int} {i : Nat} {z : Int} (h : W[i]? = some z) : wat W i = z := by unfold wat; rw [List.getD_eq_getElem?_getD, h]; rfl
/-- Whether node i of the way is one, and stands behind the one before it. -/
def stepB (N : Int) (L : List Ed) (W : List Int) (i : Nat) : Bool := ndB N (wat W i) && (i == 0 || !(cst L (wat W (i - 1)) (wat W i) == 1000000))
/-- What the way's first k nodes cost. -/
def wyS (L : List Ed) (W : List Int) : Nat → Int
  | 0 => 0
  | 1 => 0
  | k + 2 => wyS L W (k + 1) + cst L (wat W k) (wat W (k + 1))
def wcM (N : Int) (L : List Ed) (W : List Int) : Int := if gok N L = true ∧ 0 < W.length ∧ W.length ≤ 300 ∧ ∀ i, i < W.length → stepB N L W i = true then wyS L W W.length else -1
theorem wcM_g {N : Int} {L : List Ed} {W : List Int} (h : gok N L = false) : wcM N L W = -1 := by unfold wcM; rw [if_neg (fun hh => by rw [h] at hh; exact absurd hh.1 (by decide))]
theorem wcM_0 {N : Int} {L : List Ed} {W : List Int} (h : W.length = 0) : wcM N L W = -1 := by unfold wcM; rw [if_neg (fun hh => by omega)]
theorem wcM_big {N : Int} {L : List Ed} {W : List Int} (h : 300 < W.length) : wcM N L W = -1 := by unfold wcM; rw [if_neg (fun hh => by omega)]
theorem wcM_no {N : Int} {L : List Ed} {W : List Int} {i : Nat} (h : i < W.length) (hs : stepB N L W i = false) : wcM N L W = -1 := by
  unfold wcM; rw [if_neg (fun hh => by have := hh.2.2.2 i h; rw [hs] at this; exact absurd this (by decide))]
theorem wcM_yes {N : Int} {L : List Ed} {W : List Int} (hG : gok N L = true) (h0 : 0 < W.length) (h1 : W.length ≤ 300) (hs : ∀ i, i < W.length → stepB N L W i = true) : wcM N L W = wyS L W W.length := by
  unfold wcM; rw [if_pos ⟨hG, h0, h1, hs⟩]
theorem wyS_in {N : Int} {L : List Ed} (hG : gok N L = true) (W : List Int) : ∀ k, 0 ≤ wyS L W k ∧ wyS L W k ≤ 1000000 * k
  | 0 => by simp [wyS]
  | 1 => by simp [wyS]
  | k + 2 => by
    have h1 := wyS_in hG W (k + 1)
    have h2 := cst_bound hG (wat W k) (wat W (k + 1))
    unfold wyS
    push_cast at *
    omega
theorem nd_in {N x : Int} (h : ndB N x = true) (hN : N ≤ 10) : 0 ≤ x ∧ x < 10 := by unfold ndB at h; rw [inB_iff] at h; omega
theorem below_dN {B : Nat} {a w : World} (h : Below B a w) (n : Nat) : Below B a (w.drewN n) := h.trans ⟨rfl, rfl, rfl, Nat.le_refl _, fun _ _ => rfl⟩
/-- The graph's box at the head of a function's memory, and what lies below. -/
def GB (w wr : World) (N : Int) (v : Value) : Prop := wr.cell? ⟨w.heap.size, 0, none⟩ = some (.int .i64 N) ∧ wr.cell? ⟨w.heap.size, 1, none⟩ = some v ∧ w.heap.size < wr.heap.size ∧ Below w.heap.size w wr




set_option maxHeartbeats 2000000 in
theorem iwc_g (N : Int) (lo hi n : Nat) (v : Value) (L : List Ed) (nw : Nat) (aw : Option Addr) (cw : Nat) (w : World) (hL : L.length = n) (hr : Row 3 w lo hi v n (flat L)) (hh : hi ≤ w.heap.size) (hG : gok N L = false) :
    Calls Try.prog 38 #[.agg #[.int .i64 N, v], .slice aw nw cw] w fun e w' => e = .returned (.int .i64 (-1)) ∧ Below w.heap.size w w' := by
  have HR := Lib.hid hr
  obtain ⟨ad, cp, rfl⟩ := hr.slice
  clear hr
  have hkk :  (w.alloc (.cells #[.int .i64 N, .slice ad n cp] 29)).cell? ⟨w.heap.size, 0, none⟩ = some (.int .i64 N) ∧ (w.alloc (.cells #[.int .i64 N, .slice ad n cp] 29)).cell? ⟨w.heap.size, 1, none⟩ = some (.slice ad n cp) ∧ w.heap.size < (w.alloc (.cells #[.int .i64 N, .slice ad n cp] 29)).heap.size ∧ Below w.heap.size w (w.alloc (.cells #[.int .i64 N, .slice ad n cp] 29)) := ⟨by simp, by simp, by simp, by go_grown⟩
  go_enter Try.func38, Try.ntmps38
  go_wp2_with fail
  refine wp_region_held_drew (S := (fun w' => w'.cell? ⟨w.heap.size, 0, none⟩ = some (.int .i64 N) ∧ w'.cell? ⟨w.heap.size, 1, none⟩ = some (.slice ad n cp) ∧ w.heap.size < w'.heap.size ∧ Below w.heap.size w w')) (by kernel_rfl) ?_ (fun hHeld => ?_)
  · (first | assumption | exact rk2_drew hkk | exact rk2_drew (by assumption) | exact rk2_keep (by omega) (by omega) (by omega) (by assumption) (by assumption))
  refine step_read 0 10 rfl rfl (by kernel_rfl) (by kernel_rfl) (by kernel_rfl) (fun _ _ _ h => h) (by rfl) (v := ?_) (fun w hSw => ?_) (by assumption) ?_; rotate_left; (focus ((try dsimp only at hSw); go_simp; first | done | exact rfl)); simp only [List.set]
  (refine wpAnyH_ready (rs := [1]) (by kernel_rfl) (by simp) ?_; refine AllReadyH.cons rfl (fun K hK => ?_) AllReadyH.nil; go_simp; (go_at_call 51; refine (igok_any N lo hi n _ L _ hL (HR.out.below (rk2_out (by assumption)).2 hh) (by have hq := (rk2_out (by assumption)).1; omega)).mono ?_; rw [hG]; rintro e w2 ⟨rfl, hb⟩); refine hK.out _ _ ?_ (fun hHeld => ?_); (focus ((first | assumption | exact rk2_drew hkk | exact rk2_drew (by assumption) | exact rk2_keep (by omega) (by omega) (by omega) (by assumption) (by assumption)))); clear hK K)
  refine step_read 2 12 rfl rfl (by kernel_rfl) (by kernel_rfl) (by kernel_rfl) (fun _ _ _ h => h) (by rfl) (v := ?_) (fun w hSw => ?_) (by assumption) ?_; rotate_left; (focus ((try dsimp only at hSw); go_simp; first | done | exact rfl)); simp only [List.set]
  refine step_read 3 13 rfl rfl (by kernel_rfl) (by kernel_rfl) (by kernel_rfl) (fun _ _ _ h => h) (by rfl) (v := ?_) (fun w hSw => ?_) (by assumption) ?_; rotate_left; (focus ((try dsimp only at hSw); go_simp; first | done | exact rfl)); simp only [List.set]
  refine step_skip 4 14 rfl rfl (by kernel_rfl) (by kernel_rfl) (by kernel_rfl) (fun _ _ _ h => h) (by rfl) (by assumption) ?_; simp only [List.set]
  refine step_skip 5 15 rfl rfl (by kernel_rfl) (by kernel_rfl) (by kernel_rfl) (fun _ _ _ h => h) (by rfl) (by assumption) ?_; simp only [List.set]
  refine step_skip 6 16 rfl rfl (by kernel_rfl) (by kernel_rfl) (by kernel_rfl) (fun _ _ _ h => h) (by rfl) (by assumption) ?_; simp only [List.set]
  refine step_read 7 17 rfl rfl (by kernel_rfl) (by kernel_rfl) (by kernel_rfl) (fun _ _ _ h => h) (by rfl) (v := ?_) (fun w hSw => ?_) (by assumption) ?_; rotate_left; (focus ((try dsimp only at hSw); go_simp; first | done | exact rfl)); simp only [List.set]
  refine step_read 8 18 rfl rfl (by kernel_rfl) (by kernel_rfl) (by kernel_rfl) (fun _ _ _ h => h) (by rfl) (v := ?_) (fun w hSw => ?_) (by assumption) ?_; rotate_left; (focus ((try dsimp only at hSw); go_simp; first | done | exact rfl)); simp only [List.set]
  refine step_skip 9 19 rfl rfl (by kernel_rfl) (by kernel_rfl) (by kernel_rfl) (fun _ _ _ h => h) (by rfl) (by assumption) ?_; simp only [List.set]
  refine step_skip 10 20 rfl rfl (by kernel_rfl) (by kernel_rfl) (by kernel_rfl) (fun _ _ _ h => h) (by rfl) (by assumption) ?_; simp only [List.set]
  refine step_skip 11 21 rfl rfl (by kernel_rfl) (by kernel_rfl) (by kernel_rfl) (fun _ _ _ h => h) (by rfl) (by assumption) ?_; simp only [List.set]
  refine step_read 12 22 rfl rfl (by kernel_rfl) (by kernel_rfl) (by kernel_rfl) (fun _ _ _ h => h) (by rfl) (v := ?_) (fun w hSw => ?_) (by assumption) ?_; rotate_left; (focus ((try dsimp only at hSw); go_simp; first | done | exact rfl)); simp only [List.set]
  refine step_read 13 23 rfl rfl (by kernel_rfl) (by kernel_rfl) (by kernel_rfl) (fun _ _ _ h => h) (by rfl) (v := ?_) (fun w hSw => ?_) (by assumption) ?_; rotate_left; (focus ((try dsimp only at hSw); go_simp; first | done | exact rfl)); simp only [List.set]
  refine step_skip 14 24 rfl rfl (by kernel_rfl) (by kernel_rfl) (by kernel_rfl) (fun _ _ _ h => h) (by rfl) (by assumption) ?_; simp only [List.set]
  refine step_skip 15 25 rfl rfl (by kernel_rfl) (by kernel_rfl) (by kernel_rfl) (fun _ _ _ h => h) (by rfl) (by assumption) ?_; simp only [List.set]
  refine step_skip 16 26 rfl rfl (by kernel_rfl) (by kernel_rfl) (by kernel_rfl) (fun _ _ _ h => h) (by rfl) (by assumption) ?_; simp only [List.set]
  refine step_skip 17 27 rfl rfl (by kernel_rfl) (by kernel_rfl) (by kernel_rfl) (fun _ _ _ h => h) (by rfl) (by assumption) ?_; simp only [List.set]
  refine step_skip 18 28 rfl rfl (by kernel_rfl) (by kernel_rfl) (by kernel_rfl) (fun _ _ _ h => h) (by rfl) (by assumption) ?_; simp only [List.set]
  refine step_skip 19 29 rfl rfl (by kernel_rfl) (by kernel_rfl) (by kernel_rfl) (fun _ _ _ h => h) (by rfl) (by assumption) ?_; simp only [List.set]
  refine step_read 20 30 rfl rfl (by kernel_rfl) (by kernel_rfl) (by kernel_rfl) (fun _ _ _ h => h) (by rfl) (v := ?_) (fun w hSw => ?_) (by assumption) ?_; rotate_left; (focus ((try dsimp only at hSw); go_simp; first | done | exact rfl)); simp only [List.set]
  refine wpAnyH_done (by kernel_rfl) ?_ _
  go_wp2_with fail
  go_ret
  exact ⟨rfl, (rk2_out (by assumption)).2⟩

set_option maxHeartbeats 2000000 in
theorem iwc_0 (N : Int) (lo hi n : Nat) (v : Value) (L : List Ed) (nw : Nat) (aw : Option Addr) (cw : Nat) (w : World) (hL : L.length = n) (hr : Row 3 w lo hi v n (flat L)) (hh : hi ≤ w.heap.size) (hG : gok N L = true) (h0 : nw = 0) :
    Calls Try.prog 38 #[.agg #[.int .i64 N, v], .slice aw nw cw] w fun e w' => e = .returned (.int .i64 (-1)) ∧ Below w.heap.size w w' := by
  have HR := Lib.hid hr
  obtain ⟨ad, cp, rfl⟩ := hr.slice
  clear hr
  subst h0
  have hkk :  (w.alloc (.cells #[.int .i64 N, .slice ad n cp] 29)).cell? ⟨w.heap.size, 0, none⟩ = some (.int .i64 N) ∧ (w.alloc (.cells #[.int .i64 N, .slice ad n cp] 29)).cell? ⟨w.heap.size, 1, none⟩ = some (.slice ad n cp) ∧ w.heap.size < (w.alloc (.cells #[.int .i64 N, .slice ad n cp] 29)).heap.size ∧ Below w.heap.size w (w.alloc (.cells #[.int .i64 N, .slice ad n cp] 29)) := ⟨by simp, by simp, by simp, by go_grown⟩
  go_enter Try.func38, Try.ntmps38
  go_wp2_with fail
  refine wp_region_held_drew (S := (fun w' => w'.cell? ⟨w.heap.size, 0, none⟩ = some (.int .i64 N) ∧ w'.cell? ⟨w.heap.size, 1, none⟩ = some (.slice ad n cp) ∧ w.heap.size < w'.heap.size ∧ Below w.heap.size w w')) (by kernel_rfl) ?_ (fun hHeld => ?_)
  · (first | assumption | exact rk2_drew hkk | exact rk2_drew (by assumption) | exact rk2_keep (by omega) (by omega) (by omega) (by assumption) (by assumption))
  refine step_read 0 10 rfl rfl (by kernel_rfl) (by kernel_rfl) (by kernel_rfl) (fun _ _ _ h => h) (by rfl) (v := ?_) (fun w hSw => ?_) (by assumption) ?_; rotate_left; (focus ((try dsimp only at hSw); go_simp; first | done | exact rfl)); simp only [List.set]
  (refine wpAnyH_ready (rs := [1]) (by kernel_rfl) (by simp) ?_; refine AllReadyH.cons rfl (fun K hK => ?_) AllReadyH.nil; go_simp; (go_at_call 51; refine (igok_any N lo hi n _ L _ hL (HR.out.below (rk2_out (by assumption)).2 hh) (by have hq := (rk2_out (by assumption)).1; omega)).mono ?_; rw [hG]; rintro e w2 ⟨rfl, hb⟩); refine hK.out _ _ ?_ (fun hHeld => ?_); (focus ((first | assumption | exact rk2_drew hkk | exact rk2_drew (by assumption) | exact rk2_keep (by omega) (by omega) (by omega) (by assumption) (by assumption)))); clear hK K)
  refine step_read 2 12 rfl rfl (by kernel_rfl) (by kernel_rfl) (by kernel_rfl) (fun _ _ _ h => h) (by rfl) (v := ?_) (fun w hSw => ?_) (by assumption) ?_; rotate_left; (focus ((try dsimp only at hSw); go_simp; first | done | exact rfl)); simp only [List.set]
  refine step_read 3 13 rfl rfl (by kernel_rfl) (by kernel_rfl) (by kernel_rfl) (fun _ _ _ h => h) (by rfl) (v := ?_) (fun w hSw => ?_) (by assumption) ?_; rotate_left; (focus ((try dsimp only at hSw); go_simp; first | done | exact rfl)); simp only [List.set]
  refine step_read 4 14 rfl rfl (by kernel_rfl) (by kernel_rfl) (by kernel_rfl) (fun _ _ _ h => h) (by rfl) (v := ?_) (fun w hSw => ?_) (by assumption) ?_; rotate_left; (focus ((try dsimp only at hSw); go_simp; first | done | exact rfl)); simp only [List.set]
  refine step_read 5 15 rfl rfl (by kernel_rfl) (by kernel_rfl) (by kernel_rfl) (fun _ _ _ h => h) (by rfl) (v := ?_) (fun w hSw => ?_) (by assumption) ?_; rotate_left; (focus ((try dsimp only at hSw); go_simp; first | done | exact rfl)); simp only [List.set]
  refine step_read 6 16 rfl rfl (by kernel_rfl) (by kernel_rfl) (by kernel_rfl) (fun _ _ _ h => h) (by rfl) (v := ?_) (fun w hSw => ?_) (by assumption) ?_; rotate_left; (focus ((try dsimp only at hSw); go_simp; first | done | exact rfl)); simp only [List.set]
  refine step_read 7 17 rfl rfl (by kernel_rfl) (by kernel_rfl) (by kernel_rfl) (fun _ _ _ h => h) (by rfl) (v := ?_) (fun w hSw => ?_) (by assumption) ?_; rotate_left; (focus ((try dsimp only at hSw); go_simp; first | done | exact rfl)); simp only [List.set]
  refine step_read 8 18 rfl rfl (by kernel_rfl) (by kernel_rfl) (by kernel_rfl) (fun _ _ _ h => h) (by rfl) (v := ?_) (fun w hSw => ?_) (by assumption) ?_; rotate_left; (focus ((try dsimp only at hSw); go_simp; first | done | exact rfl)); simp only [List.set]
  refine step_skip 9 19 rfl rfl (by kernel_rfl) (by kernel_rfl) (by kernel_rfl) (fun _ _ _ h => h) (by rfl) (by assumption) ?_; simp only [List.set]
  refine step_skip 10 20 rfl rfl (by kernel_rfl) (by kernel_rfl) (by kernel_rfl) (fun _ _ _ h => h) (by rfl) (by assumption) ?_; simp only [List.set]
  refine step_skip 11 21 rfl rfl (by kernel_rfl) (by kernel_rfl) (by kernel_rfl) (fun _ _ _ h => h) (by rfl) (by assumption) ?_; simp only [List.set]
  refine step_read 12 22 rfl rfl (by kernel_rfl) (by kernel_rfl) (by kernel_rfl) (fun _ _ _ h => h) (by rfl) (v := ?_) (fun w hSw => ?_) (by assumption) ?_; rotate_left; (focus ((try dsimp only at hSw); go_simp; first | done | exact rfl)); simp only [List.set]
  refine step_read 13 23 rfl rfl (by kernel_rfl) (by kernel_rfl) (by kernel_rfl) (fun _ _ _ h => h) (by rfl) (v := ?_) (fun w hSw => ?_) (by assumption) ?_; rotate_left; (focus ((try dsimp only at hSw); go_simp; first | done | exact rfl)); simp only [List.set]
  refine step_skip 14 24 rfl rfl (by kernel_rfl) (by kernel_rfl) (by kernel_rfl) (fun _ _ _ h => h) (by rfl) (by assumption) ?_; simp only [List.set]
  refine step_skip 15 25 rfl rfl (by kernel_rfl) (by kernel_rfl) (by kernel_rfl) (fun _ _ _ h => h) (by rfl) (by assumption) ?_; simp only [List.set]
  refine step_skip 16 26 rfl rfl (by kernel_rfl) (by kernel_rfl) (by kernel_rfl) (fun _ _ _ h => h) (by rfl) (by assumption) ?_; simp only [List.set]
  refine step_skip 17 27 rfl rfl (by kernel_rfl) (by kernel_rfl) (by kernel_rfl) (fun _ _ _ h => h) (by rfl) (by assumption) ?_; simp only [List.set]
  refine step_skip 18 28 rfl rfl (by kernel_rfl) (by kernel_rfl) (by kernel_rfl) (fun _ _ _ h => h) (by rfl) (by assumption) ?_; simp only [List.set]
  refine step_skip 19 29 rfl rfl (by kernel_rfl) (by kernel_rfl) (by kernel_rfl) (fun _ _ _ h => h) (by rfl) (by assumption) ?_; simp only [List.set]
  refine step_read 20 30 rfl rfl (by kernel_rfl) (by kernel_rfl) (by kernel_rfl) (fun _ _ _ h => h) (by rfl) (v := ?_) (fun w hSw => ?_) (by assumption) ?_; rotate_left; (focus ((try dsimp only at hSw); go_simp; first | done | exact rfl)); simp only [List.set]
  refine wpAnyH_done (by kernel_rfl) ?_ _
  go_wp2_with fail
  go_ret
  exact ⟨rfl, (rk2_out (by assumption)).2⟩

set_option maxHeartbeats 2000000 in
theorem iwc_big (N : Int) (lo hi n : Nat) (v : Value) (L : List Ed) (nw : Nat) (aw : Option Addr) (cw : Nat) (w : World) (hL : L.length = n) (hr : Row 3 w lo hi v n (flat L)) (hh : hi ≤ w.heap.size) (hG : gok N L = true) (h0 : 300 < nw) (h1 : nw ≤ 1100000) :
    Calls Try.prog 38 #[.agg #[.int .i64 N, v], .slice aw nw cw] w fun e w' => e = .returned (.int .i64 (-1)) ∧ Below w.heap.size w w' := by
  have HR := Lib.hid hr
  obtain ⟨ad, cp, rfl⟩ := hr.slice
  clear hr
  have h2 : (300 : Int) < (nw : Int) := by omega
  have h3 : ((nw : Int) == 0) = false := by simp; omega
  have h4 : decide (300 < nw) = true := decide_eq_true h0
  have hkk :  (w.alloc (.cells #[.int .i64 N, .slice ad n cp] 29)).cell? ⟨w.heap.size, 0, none⟩ = some (.int .i64 N) ∧ (w.alloc (.cells #[.int .i64 N, .slice ad n cp] 29)).cell? ⟨w.heap.size, 1, none⟩ = some (.slice ad n cp) ∧ w.heap.size < (w.alloc (.cells #[.int .i64 N, .slice ad n cp] 29)).heap.size ∧ Below w.heap.size w (w.alloc (.cells #[.int .i64 N, .slice ad n cp] 29)) := ⟨by simp, by simp, by simp, by go_grown⟩
  go_enter Try.func38, Try.ntmps38
  go_wp2_with fail
  refine wp_region_held_drew (S := (fun w' => w'.cell? ⟨w.heap.size, 0, none⟩ = some (.int .i64 N) ∧ w'.cell? ⟨w.heap.size, 1, none⟩ = some (.slice ad n cp) ∧ w.heap.size < w'.heap.size ∧ Below w.heap.size w w')) (by kernel_rfl) ?_ (fun hHeld => ?_)
  · (first | assumption | exact rk2_drew hkk | exact rk2_drew (by assumption) | exact rk2_keep (by omega) (by omega) (by omega) (by assumption) (by assumption))
  refine step_read 0 10 rfl rfl (by kernel_rfl) (by kernel_rfl) (by kernel_rfl) (fun _ _ _ h => h) (by rfl) (v := ?_) (fun w hSw => ?_) (by assumption) ?_; rotate_left; (focus ((try dsimp only at hSw); go_simp; first | done | exact rfl)); simp only [List.set]
  (refine wpAnyH_ready (rs := [1]) (by kernel_rfl) (by simp) ?_; refine AllReadyH.cons rfl (fun K hK => ?_) AllReadyH.nil; go_simp; (go_at_call 51; refine (igok_any N lo hi n _ L _ hL (HR.out.below (rk2_out (by assumption)).2 hh) (by have hq := (rk2_out (by assumption)).1; omega)).mono ?_; rw [hG]; rintro e w2 ⟨rfl, hb⟩); refine hK.out _ _ ?_ (fun hHeld => ?_); (focus ((first | assumption | exact rk2_drew hkk | exact rk2_drew (by assumption) | exact rk2_keep (by omega) (by omega) (by omega) (by assumption) (by assumption)))); clear hK K)
  refine step_read 2 12 rfl rfl (by kernel_rfl) (by kernel_rfl) (by kernel_rfl) (fun _ _ _ h => h) (by rfl) (v := ?_) (fun w hSw => ?_) (by assumption) ?_; rotate_left; (focus ((try dsimp only at hSw); go_simp; first | done | exact rfl)); simp only [List.set]
  refine step_read 3 13 rfl rfl (by kernel_rfl) (by kernel_rfl) (by kernel_rfl) (fun _ _ _ h => h) (by rfl) (v := ?_) (fun w hSw => ?_) (by assumption) ?_; rotate_left; (focus ((try dsimp only at hSw); go_simp; first | done | exact rfl)); simp only [List.set]
  refine step_read 4 14 rfl rfl (by kernel_rfl) (by kernel_rfl) (by kernel_rfl) (fun _ _ _ h => h) (by rfl) (v := ?_) (fun w hSw => ?_) (by assumption) ?_; rotate_left; (focus ((try dsimp only at hSw); go_simp; first | done | exact rfl)); simp only [List.set]
  refine step_read 5 15 rfl rfl (by kernel_rfl) (by kernel_rfl) (by kernel_rfl) (fun _ _ _ h => h) (by rfl) (v := ?_) (fun w hSw => ?_) (by assumption) ?_; rotate_left; (focus ((try dsimp only at hSw); go_simp; first | done | exact rfl)); simp only [List.set]
  refine step_read 6 16 rfl rfl (by kernel_rfl) (by kernel_rfl) (by kernel_rfl) (fun _ _ _ h => h) (by rfl) (v := ?_) (fun w hSw => ?_) (by assumption) ?_; rotate_left; (focus ((try dsimp only at hSw); go_simp; first | done | exact rfl)); simp only [List.set]
  refine step_read 7 17 rfl rfl (by kernel_rfl) (by kernel_rfl) (by kernel_rfl) (fun _ _ _ h => h) (by rfl) (v := ?_) (fun w hSw => ?_) (by assumption) ?_; rotate_left; (focus ((try dsimp only at hSw); go_simp; first | done | exact rfl)); simp only [List.set]
  refine step_read 8 18 rfl rfl (by kernel_rfl) (by kernel_rfl) (by kernel_rfl) (fun _ _ _ h => h) (by rfl) (v := ?_) (fun w hSw => ?_) (by assumption) ?_; rotate_left; (focus ((try dsimp only at hSw); go_simp; first | done | exact rfl)); simp only [List.set]
  refine step_read 9 19 rfl rfl (by kernel_rfl) (by kernel_rfl) (by kernel_rfl) (fun _ _ _ h => h) (by rfl) (v := ?_) (fun w hSw => ?_) (by assumption) ?_; rotate_left; (focus ((try dsimp only at hSw); go_simp; first | done | exact rfl)); simp only [List.set]
  refine step_read 10 20 rfl rfl (by kernel_rfl) (by kernel_rfl) (by kernel_rfl) (fun _ _ _ h => h) (by rfl) (v := ?_) (fun w hSw => ?_) (by assumption) ?_; rotate_left; (focus ((try dsimp only at hSw); go_simp; first | done | exact rfl)); simp only [List.set]
  refine step_read 11 21 rfl rfl (by kernel_rfl) (by kernel_rfl) (by kernel_rfl) (fun _ _ _ h => h) (by rfl) (v := ?_) (fun w hSw => ?_) (by assumption) ?_; rotate_left; (focus ((try dsimp only at hSw); go_simp; first | done | exact rfl)); simp only [List.set]
  refine step_read 12 22 rfl rfl (by kernel_rfl) (by kernel_rfl) (by kernel_rfl) (fun _ _ _ h => h) (by rfl) (v := ?_) (fun w hSw => ?_) (by assumption) ?_; rotate_left; (focus ((try dsimp only at hSw); go_simp; first | done | exact rfl)); simp only [List.set]
  refine step_read 13 23 rfl rfl (by kernel_rfl) (by kernel_rfl) (by kernel_rfl) (fun _ _ _ h => h) (by rfl) (v := ?_) (fun w hSw => ?_) (by assumption) ?_; rotate_left; (focus ((try dsimp only at hSw); go_simp; first | done | exact rfl)); simp only [List.set]
  refine step_skip 14 24 rfl rfl (by kernel_rfl) (by kernel_rfl) (by kernel_rfl) (fun _ _ _ h => h) (by rfl) (by assumption) ?_; simp only [List.set]
  refine step_skip 15 25 rfl rfl (by kernel_rfl) (by kernel_rfl) (by kernel_rfl) (fun _ _ _ h => h) (by rfl) (by assumption) ?_; simp only [List.set]
  refine step_skip 16 26 rfl rfl (by kernel_rfl) (by kernel_rfl) (by kernel_rfl) (fun _ _ _ h => h) (by rfl) (by assumption) ?_; simp only [List.set]
  refine step_skip 17 27 rfl rfl (by kernel_rfl) (by kernel_rfl) (by kernel_rfl) (fun _ _ _ h => h) (by rfl) (by assumption) ?_; simp only [List.set]
  refine step_skip 18 28 rfl rfl (by kernel_rfl) (by kernel_rfl) (by kernel_rfl) (fun _ _ _ h => h) (by rfl) (by assumption) ?_; simp only [List.set]
  refine step_skip 19 29 rfl rfl (by kernel_rfl) (by kernel_rfl) (by kernel_rfl) (fun _ _ _ h => h) (by rfl) (by assumption) ?_; simp only [List.set]
  refine step_read 20 30 rfl rfl (by kernel_rfl) (by kernel_rfl) (by kernel_rfl) (fun _ _ _ h => h) (by rfl) (v := ?_) (fun w hSw => ?_) (by assumption) ?_; rotate_left; (focus ((try dsimp only at hSw); go_simp; first | done | exact rfl)); simp only [List.set]
  refine wpAnyH_done (by kernel_rfl) ?_ _
  go_wp2_with fail
  go_ret
  exact ⟨rfl, (rk2_out (by assumption)).2⟩




theorem below_undN {w w' : World} {n : Nat} (hb : Below (w.drewN n).heap.size (w.drewN n) w') : Below w.heap.size w w' := ⟨hb.os, hb.tape, hb.output, hb.size, hb.block⟩
/-- The graph's box, and the table of costs in block T. -/
def GBT (w wr : World) (N : Int) (v : Value) (T : Nat) (L : List Ed) : Prop := GB w wr N v ∧ w.heap.size < T ∧ wr.heap[T]? = some (.cells (tabOf L) 93 (0, 0))
theorem GBT.below {w wr w' : World} {N : Int} {v : Value} {T : Nat} {L : List Ed} (h : GBT w wr N v T L) (hb : Below wr.heap.size wr w') : GBT w w' N v T L := by
  obtain ⟨⟨h0, h1, h2, h3⟩, h4, h5⟩ := h
  have hs := hb.size
  exact ⟨⟨by rw [hb.cell (p := ⟨w.heap.size, 0, none⟩) h2]; exact h0, by rw [hb.cell (p := ⟨w.heap.size, 1, none⟩) h2]; exact h1, by omega, h3.trans (hb.mono (by omega))⟩, h4, by rw [hb.block T (Array.getElem?_eq_some_iff.1 h5).1]; exact h5⟩
theorem GBT.at {w wr : World} {N : Int} {v : Value} {T : Nat} {L : List Ed} (h : GBT w wr N v T L) {x y : Int} (hx : 0 ≤ x ∧ x < 10) (hy : 0 ≤ y ∧ y < 10) : wr.cell? ⟨T, x.toNat * 10 + y.toNat, none⟩ = some (.int .i64 (cst L x y)) := by
  rw [cell_of_row wr T _ _ _ _ h.2.2]; exact tabOf_at L x y hx hy
theorem GBT.start {w w3 : World} {N : Int} {v : Value} (h : GB w w3 N v) (L : List Ed) : GBT w ((w3.alloc (.cells Try.zeroCells93 93)).setRow w3.heap.size (tabOf L)) N v w3.heap.size L := by
  obtain ⟨h0, h1, h2, h3⟩ := h
  exact ⟨⟨by rw [cell_setRow_other _ _ _ _ (by show w.heap.size ≠ _; omega), old_box h2]; exact h0, by rw [cell_setRow_other _ _ _ _ (by show w.heap.size ≠ _; omega), old_box h2]; exact h1, by simp; omega, below_setRow (h3.alloc (by omega) _) (by omega) _⟩, h2, setRow_heap _ _ _ _ _ _ (heap_alloc_new _ _)⟩

set_option maxRecDepth 100000 in
set_option maxHeartbeats 4000000 in
theorem iwc_some (N : Int) (lo hi n : Nat) (v : Value) (L : List Ed) (nw : Nat) (aw : Option Addr) (cw : Nat) (W : List Int) (w : World) (hL : L.length = n) (hr : Row 3 w lo hi v n (flat L)) (hh : hi ≤ w.heap.size) (hW : W.length = nw) (hG : gok N L = true) (h0 : 0 < nw) (h2 : nw ≤ 300) (hcw : 0 < nw → ∃ g, aw = some ⟨g, 0, none⟩ ∧ g < w.heap.size ∧ ∀ q z, W[q]? = some z → w.cell? ⟨g, q, none⟩ = some (.int .i64 z)) :
    Calls Try.prog 38 #[.agg #[.int .i64 N, v], .slice aw nw cw] w fun e w' => e = .returned (.int .i64 (wcM N L W)) ∧ Below w.heap.size w w' := by
  have HR := Lib.hid hr
  obtain ⟨ad, cp, rfl⟩ := hr.slice
  clear hr
  have hN1 := (gok_parts hG).1
  have hN2 := (gok_parts hG).2.1
  have HG := Lib.hid hG
  have HW := Lib.hid hW
  have t0 : ((nw : Int) == 0) = false := by simp; omega
  have t1 : decide ((300 : Int) < (nw : Int)) = false := decide_eq_false (by omega)
  have t2 : decide (300 < nw) = false := decide_eq_false (by omega)
  have t3 : (0 : Int) < (nw : Int) := by omega
  obtain ⟨gw, rfl, hgw, hcw⟩ := hcw h0
  have HC := Lib.hid hcw
  obtain ⟨x, hx⟩ : ∃ x, W[0]? = some x := ⟨W[0]'(by omega), List.getElem?_eq_getElem _⟩
  have z0 := hcw _ _ hx
  have HX : Hid (wat W 0 = x) := wat_at hx
  clear hcw hW hx
  by_cases h1 : ndB N x = true
  · have HS0 : Hid (stepB N L W 0 = true) := by show stepB N L W 0 = true; unfold stepB; rw [HX.out, h1]; rfl
    have hkk :  (w.alloc (.cells #[.int .i64 N, .slice ad n cp] 29)).cell? ⟨w.heap.size, 0, none⟩ = some (.int .i64 N) ∧ (w.alloc (.cells #[.int .i64 N, .slice ad n cp] 29)).cell? ⟨w.heap.size, 1, none⟩ = some (.slice ad n cp) ∧ (w.alloc (.cells #[.int .i64 N, .slice ad n cp] 29)).cell? ⟨gw, 0, none⟩ = some (.int .i64 x) ∧ w.heap.size < (w.alloc (.cells #[.int .i64 N, .slice ad n cp] 29)).heap.size ∧ Below w.heap.size w (w.alloc (.cells #[.int .i64 N, .slice ad n cp] 29)) := ⟨by simp, by simp, by rw [old_box hgw]; exact z0, by simp, by go_grown⟩
    go_enter Try.func38, Try.ntmps38
    go_wp2_with fail
    refine wp_region_held_drew (S := (fun w' => w'.cell? ⟨w.heap.size, 0, none⟩ = some (.int .i64 N) ∧ w'.cell? ⟨w.heap.size, 1, none⟩ = some (.slice ad n cp) ∧ w'.cell? ⟨gw, 0, none⟩ = some (.int .i64 x) ∧ w.heap.size < w'.heap.size ∧ Below w.heap.size w w')) (by kernel_rfl) ?_ (fun hHeld => ?_)
    · (first | assumption | exact rk3_drew hkk | exact rk3_drew (by assumption) | exact rk3_keep (by omega) (by omega) (by omega) (by omega) (by assumption) (by assumption))
    refine step_read 0 10 rfl rfl (by kernel_rfl) (by kernel_rfl) (by kernel_rfl) (fun _ _ _ h => h) (by rfl) (v := ?_) (fun w hSw => ?_) (by assumption) ?_; rotate_left; (focus ((try dsimp only at hSw); go_simp; first | done | exact rfl)); simp only [List.set]
    (refine wpAnyH_ready (rs := [1]) (by kernel_rfl) (by simp) ?_; refine AllReadyH.cons rfl (fun K hK => ?_) AllReadyH.nil; go_simp; (go_at_call 51; refine (igok_any N lo hi n _ L _ hL (HR.out.below (rk3_out (by assumption)).2 hh) (by have hq := (rk3_out (by assumption)).1; omega)).mono ?_; rw [hG]; rintro e w2 ⟨rfl, hb⟩); refine hK.out _ _ ?_ (fun hHeld => ?_); (focus ((first | assumption | exact rk3_drew hkk | exact rk3_drew (by assumption) | exact rk3_keep (by omega) (by omega) (by omega) (by omega) (by assumption) (by assumption)))); clear hK K)
    refine step_read 2 12 rfl rfl (by kernel_rfl) (by kernel_rfl) (by kernel_rfl) (fun _ _ _ h => h) (by rfl) (v := ?_) (fun w hSw => ?_) (by assumption) ?_; rotate_left; (focus ((try dsimp only at hSw); go_simp; first | done | exact rfl)); simp only [List.set]
    refine step_read 3 13 rfl rfl (by kernel_rfl) (by kernel_rfl) (by kernel_rfl) (fun _ _ _ h => h) (by rfl) (v := ?_) (fun w hSw => ?_) (by assumption) ?_; rotate_left; (focus ((try dsimp only at hSw); go_simp; first | done | exact rfl)); simp only [List.set]
    refine step_read 4 14 rfl rfl (by kernel_rfl) (by kernel_rfl) (by kernel_rfl) (fun _ _ _ h => h) (by rfl) (v := ?_) (fun w hSw => ?_) (by assumption) ?_; rotate_left; (focus ((try dsimp only at hSw); go_simp; first | done | exact rfl)); simp only [List.set]
    refine step_read 5 15 rfl rfl (by kernel_rfl) (by kernel_rfl) (by kernel_rfl) (fun _ _ _ h => h) (by rfl) (v := ?_) (fun w hSw => ?_) (by assumption) ?_; rotate_left; (focus ((try dsimp only at hSw); go_simp; first | done | exact rfl)); simp only [List.set]
    refine step_read 6 16 rfl rfl (by kernel_rfl) (by kernel_rfl) (by kernel_rfl) (fun _ _ _ h => h) (by rfl) (v := ?_) (fun w hSw => ?_) (by assumption) ?_; rotate_left; (focus ((try dsimp only at hSw); go_simp; first | done | exact rfl)); simp only [List.set]
    refine step_read 7 17 rfl rfl (by kernel_rfl) (by kernel_rfl) (by kernel_rfl) (fun _ _ _ h => h) (by rfl) (v := ?_) (fun w hSw => ?_) (by assumption) ?_; rotate_left; (focus ((try dsimp only at hSw); go_simp; first | done | exact rfl)); simp only [List.set]
    refine step_read 8 18 rfl rfl (by kernel_rfl) (by kernel_rfl) (by kernel_rfl) (fun _ _ _ h => h) (by rfl) (v := ?_) (fun w hSw => ?_) (by assumption) ?_; rotate_left; (focus ((try dsimp only at hSw); go_simp; first | done | exact rfl)); simp only [List.set]
    refine step_read 9 19 rfl rfl (by kernel_rfl) (by kernel_rfl) (by kernel_rfl) (fun _ _ _ h => h) (by rfl) (v := ?_) (fun w hSw => ?_) (by assumption) ?_; rotate_left; (focus ((try dsimp only at hSw); go_simp; first | done | exact rfl)); simp only [List.set]
    refine step_read 10 20 rfl rfl (by kernel_rfl) (by kernel_rfl) (by kernel_rfl) (fun _ _ _ h => h) (by rfl) (v := ?_) (fun w hSw => ?_) (by assumption) ?_; rotate_left; (focus ((try dsimp only at hSw); go_simp; first | done | exact rfl)); simp only [List.set]
    refine step_read 11 21 rfl rfl (by kernel_rfl) (by kernel_rfl) (by kernel_rfl) (fun _ _ _ h => h) (by rfl) (v := ?_) (fun w hSw => ?_) (by assumption) ?_; rotate_left; (focus ((try dsimp only at hSw); go_simp; first | done | exact rfl)); simp only [List.set]
    refine step_read 12 22 rfl rfl (by kernel_rfl) (by kernel_rfl) (by kernel_rfl) (fun _ _ _ h => h) (by rfl) (v := ?_) (fun w hSw => ?_) (by assumption) ?_; rotate_left; (focus ((try dsimp only at hSw); go_simp; first | done | exact rfl)); simp only [List.set]
    refine step_read 13 23 rfl rfl (by kernel_rfl) (by kernel_rfl) (by kernel_rfl) (fun _ _ _ h => h) (by rfl) (v := ?_) (fun w hSw => ?_) (by assumption) ?_; rotate_left; (focus ((try dsimp only at hSw); go_simp; first | done | exact rfl)); simp only [List.set]
    refine step_read 14 24 rfl rfl (by kernel_rfl) (by kernel_rfl) (by kernel_rfl) (fun _ _ _ h => h) (by rfl) (v := ?_) (fun w hSw => ?_) (by assumption) ?_; rotate_left; (focus ((try dsimp only at hSw); go_simp; first | done | exact rfl)); simp only [List.set]
    refine step_read 15 25 rfl rfl (by kernel_rfl) (by kernel_rfl) (by kernel_rfl) (fun _ _ _ h => h) (by rfl) (v := ?_) (fun w hSw => ?_) (by assumption) ?_; rotate_left; (focus ((try dsimp only at hSw); go_simp; first | done | exact rfl)); simp only [List.set]
    refine step_read 16 26 rfl rfl (by kernel_rfl) (by kernel_rfl) (by kernel_rfl) (fun _ _ _ h => h) (by rfl) (v := ?_) (fun w hSw => ?_) (by assumption) ?_; rotate_left; (focus ((try dsimp only at hSw); go_simp; first | done | exact rfl)); simp only [List.set]
    refine step_read 17 27 rfl rfl (by kernel_rfl) (by kernel_rfl) (by kernel_rfl) (fun _ _ _ h => h) (by rfl) (v := ?_) (fun w hSw => ?_) (by assumption) ?_; rotate_left; (focus ((try dsimp only at hSw); go_simp; first | done | exact rfl)); simp only [List.set]
    (refine wpAnyH_ready (rs := [18]) (by kernel_rfl) (by simp) ?_; refine AllReadyH.cons rfl (fun K hK => ?_) AllReadyH.nil; go_simp; (go_at_call 52; refine (hasNode_any N _ _ _ x _).mono ?_; rw [h1]; rintro e w2 ⟨rfl, hb⟩); refine hK.out _ _ ?_ (fun hHeld => ?_); (focus ((first | assumption | exact rk3_drew hkk | exact rk3_drew (by assumption) | exact rk3_keep (by omega) (by omega) (by omega) (by omega) (by assumption) (by assumption)))); clear hK K)
    refine step_read 19 29 rfl rfl (by kernel_rfl) (by kernel_rfl) (by kernel_rfl) (fun _ _ _ h => h) (by rfl) (v := ?_) (fun w hSw => ?_) (by assumption) ?_; rotate_left; (focus ((try dsimp only at hSw); go_simp; first | done | exact rfl)); simp only [List.set]
    refine step_read 20 30 rfl rfl (by kernel_rfl) (by kernel_rfl) (by kernel_rfl) (fun _ _ _ h => h) (by rfl) (v := ?_) (fun w hSw => ?_) (by assumption) ?_; rotate_left; (focus ((try dsimp only at hSw); go_simp; first | done | exact rfl)); simp only [List.set]
    refine wpAnyH_done (by kernel_rfl) ?_ _
    have hE : w2.cell? ⟨w.heap.size, 0, none⟩ = some (.int .i64 N) ∧ w2.cell? ⟨w.heap.size, 1, none⟩ = some (.slice ad n cp) ∧ w2.cell? ⟨gw, 0, none⟩ = some (.int .i64 x) ∧ w.heap.size < w2.heap.size ∧ Below w.heap.size w w2 := by assumption
    have j0 := hE.1
    have j1 := hE.2.1
    have j2 := hE.2.2.2.1
    have HE := Lib.hid hE
    clear hkk hE
    go_wp2_with fail
    go_at_call 75
    refine (costs_any N lo hi n _ L _ hG hL (HR.out.below HE.out.2.2.2.2 hh) (by omega)).mono ?_
    rintro e w3 ⟨rfl, hb3⟩
    have hs3 := hb3.size
    have HT0 : Hid (GB w w3 N (.slice ad n cp)) := ⟨by rw [hb3.cell (p := ⟨w.heap.size, 0, none⟩) j2]; exact j0, by rw [hb3.cell (p := ⟨w.heap.size, 1, none⟩) j2]; exact j1, by omega, HE.out.2.2.2.2.trans (hb3.mono (by omega))⟩
    have HT := Lib.hid (GBT.start HT0.out L)
    go_wp2_with (refine wpList_store_rowTo rfl 93 _ _ rfl rfl w3.heap.size (tabOf L) rfl rfl 93 Try.zeroCells93 (heap_alloc_new _ _) (by rw [Try.size93, tabOf, tabA_size]) (by rw [tabA_zero, tabOf, tabA_size, tabA_size]) (tabA_one _) ?_)
    obtain ⟨T, hT⟩ : ∃ T, T = w3.heap.size := ⟨_, rfl⟩
    rw [← hT] at HT ⊢
    generalize (w3.alloc (.cells Try.zeroCells93 93)).setRow T (tabOf L) = wt at *
    clear j0 j1 j2 HE HT0 hb3 hs3 hT z0
    have HSt : Hid (∀ j, j < 1 → stepB N L W j = true) := fun j hj => by
      obtain rfl : j = 0 := by omega
      exact HS0.out
    go_loopw [6, 7] (fun s i wr => ∃ k : Nat, 1 ≤ k ∧ k ≤ nw ∧ i = .int .i64 (k : Int) ∧ s = .int .i64 (wyS L W k) ∧ Hid (∀ j, j < k → stepB N L W j = true) ∧ Hid (GBT w wr N (.slice ad n cp) T L)) (fun _ i _ => nw - (intOf i).toNat)
    case atStart => exact ⟨1, by omega, by omega, rfl, rfl, HSt, HT⟩
    case round =>
      obtain ⟨k, hk1, hk, rfl, rfl, hS, hGB⟩ := hrel
      have k0 := hGB.out.1.1
      have k1 := hGB.out.1.2.1
      have hsz := hGB.out.1.2.2.1
      by_cases hlt : k < nw
      · obtain ⟨m, hm⟩ : ∃ m, k = m + 1 := ⟨k - 1, by omega⟩
        obtain ⟨x', hx'⟩ : ∃ x, W[k]? = some x := ⟨W[k]'(by rw [HW.out]; exact hlt), List.getElem?_eq_getElem _⟩
        obtain ⟨y, hy⟩ : ∃ y, W[m]? = some y := ⟨W[m]'(by rw [HW.out]; omega), List.getElem?_eq_getElem _⟩
        have z0 : wr.cell? ⟨gw, k, none⟩ = some (.int .i64 x') := by rw [hGB.out.1.2.2.2.cell (p := ⟨gw, k, none⟩) hgw]; exact HC.out _ _ hx'
        have z1 : wr.cell? ⟨gw, m, none⟩ = some (.int .i64 y) := by rw [hGB.out.1.2.2.2.cell (p := ⟨gw, m, none⟩) hgw]; exact HC.out _ _ hy
        have HX' : Hid (wat W k = x') := wat_at hx'
        have HY : Hid (wat W m = y) := wat_at hy
        have h3 : ndB N y = true := by
          have := hS.out m (by omega)
          unfold stepB at this
          rw [Bool.and_eq_true, HY.out] at this
          exact this.1
        have hyi := nd_in h3 hN2
        have y0 := hyi.1
        have y1 := hyi.2
        have e1 : IntKind.i64.wrap ((k : Int) - 1) = (m : Int) := by rw [IntWalk.i64_in _ (by omega)]; omega
        have q0 : (0 : Int) ≤ (k : Int) := by omega
        have q1 : (k : Int) < (nw : Int) := by omega
        have q2 : (0 : Int) ≤ (m : Int) := by omega
        have q3 : (m : Int) < (nw : Int) := by omega
        have Hm := Lib.hid hm
        have Hstep : Hid (stepB N L W k = (ndB N x' && !(cst L y x' == 1000000))) := by
          show stepB N L W k = _
          unfold stepB
          rw [Hm.out, show m + 1 - 1 = m by omega, HY.out, ← Hm.out, HX'.out]
          have : (k == 0) = false := by simp; omega
          rw [this]; rfl
        have Hadd : Hid (wyS L W (k + 1) = wyS L W k + cst L y x') := by
          show wyS L W (k + 1) = _
          rw [Hm.out]
          show wyS L W (m + 1) + cst L (wat W m) (wat W (m + 1)) = _
          rw [← Hm.out, HX'.out, HY.out]
        clear hm hx' hy hyi
        by_cases h4 : ndB N x' = true
        · have hxi := nd_in h4 hN2
          have x0 := hxi.1
          have x1 := hxi.2
          go_wp2_with fail
          go_quiet (fail)
          go_wp2_with fail
          go_at_call 52
          refine (hasNode_any N _ _ _ x' _).mono ?_
          rw [h4]
          rintro e w4 ⟨rfl, hb4⟩
          have H4 := Lib.hid (hGB.out.below (below_undN hb4))
          have l0 := H4.out.1.1
          have l1 := H4.out.1.2.1
          have l2 := H4.out.at ⟨y0, y1⟩ ⟨x0, x1⟩
          clear hb4 hGB k0 k1 z0 z1 hsz hxi
          by_cases hF : cst L y x' = 1000000
          · have Hno : Hid (wcM N L W = -1) := wcM_no (i := k) (by rw [HW.out]; exact hlt) (by rw [Hstep.out, h4, hF]; rfl)
            have hFe : (cst L y x' == 1000000) = true := by simp [hF]
            clear hF
            go_wp2_with fail
            go_ret
            exact ⟨by rw [Hno.out]; rfl, H4.out.1.2.2.2⟩
          · have hFe : (cst L y x' == 1000000) = false := by simp [hF]
            have HS : Hid (∀ j, j < k + 1 → stepB N L W j = true) := fun j hj => by
              by_cases ej : j = k
              · subst ej; rw [Hstep.out, h4, hFe]; rfl
              · exact hS.out j (by omega)
            have b1 := wyS_in HG.out W k
            have b2 := cst_bound HG.out y x'
            have b3 := b1.1
            have b4 := b1.2
            have b5 := b2.1
            have b6 := b2.2
            clear hF b1 b2
            generalize hc : cst L y x' = c at *
            generalize hs : wyS L W k = s at *
            have Hc := Lib.hid (And.intro hc hs)
            clear hc hs
            go_wp2_with fail
            go_roundw
            case rel => exact ⟨k + 1, by omega, by omega, by go_num, by rw [Hadd.out], HS, H4⟩
            case measure => simp [intOf]; omega
        · rw [Bool.not_eq_true] at h4
          have Hno : Hid (wcM N L W = -1) := wcM_no (i := k) (by rw [HW.out]; exact hlt) (by rw [Hstep.out, h4, Bool.false_and])
          go_wp2_with fail
          go_quiet (fail)
          go_wp2_with fail
          go_at_call 52
          refine (hasNode_any N _ _ _ x' _).mono ?_
          rw [h4]
          rintro e w4 ⟨rfl, hb4⟩
          have H4 := Lib.hid (hGB.out.below (below_undN hb4))
          go_wp2_with fail
          go_ret
          exact ⟨by rw [Hno.out]; rfl, H4.out.1.2.2.2⟩
      · have hge : ¬ ((k : Int) < (nw : Int)) := by omega
        obtain rfl : k = nw := by omega
        have Hv : Hid (wcM N L W = wyS L W k) := by
          show _ = _
          have := wcM_yes HG.out (by rw [HW.out]; omega) (by rw [HW.out]; omega) (fun i hi => hS.out i (by rw [HW.out] at hi; exact hi))
          rw [HW.out] at this; exact this
        clear hS
        go_wp2
        go_ret
        exact ⟨by rw [Hv.out]; rfl, hGB.out.1.2.2.2⟩
  · rw [Bool.not_eq_true] at h1
    have Hno : Hid (wcM N L W = -1) := wcM_no (i := 0) (by rw [HW.out]; exact h0) (by unfold stepB; rw [HX.out, h1, Bool.false_and])
    have hkk :  (w.alloc (.cells #[.int .i64 N, .slice ad n cp] 29)).cell? ⟨w.heap.size, 0, none⟩ = some (.int .i64 N) ∧ (w.alloc (.cells #[.int .i64 N, .slice ad n cp] 29)).cell? ⟨w.heap.size, 1, none⟩ = some (.slice ad n cp) ∧ (w.alloc (.cells #[.int .i64 N, .slice ad n cp] 29)).cell? ⟨gw, 0, none⟩ = some (.int .i64 x) ∧ w.heap.size < (w.alloc (.cells #[.int .i64 N, .slice ad n cp] 29)).heap.size ∧ Below w.heap.size w (w.alloc (.cells #[.int .i64 N, .slice ad n cp] 29)) := ⟨by simp, by simp, by rw [old_box hgw]; exact z0, by simp, by go_grown⟩
    go_enter Try.func38, Try.ntmps38
    go_wp2_with fail
    refine wp_region_held_drew (S := (fun w' => w'.cell? ⟨w.heap.size, 0, none⟩ = some (.int .i64 N) ∧ w'.cell? ⟨w.heap.size, 1, none⟩ = some (.slice ad n cp) ∧ w'.cell? ⟨gw, 0, none⟩ = some (.int .i64 x) ∧ w.heap.size < w'.heap.size ∧ Below w.heap.size w w')) (by kernel_rfl) ?_ (fun hHeld => ?_)
    · (first | assumption | exact rk3_drew hkk | exact rk3_drew (by assumption) | exact rk3_keep (by omega) (by omega) (by omega) (by omega) (by assumption) (by assumption))
    refine step_read 0 10 rfl rfl (by kernel_rfl) (by kernel_rfl) (by kernel_rfl) (fun _ _ _ h => h) (by rfl) (v := ?_) (fun w hSw => ?_) (by assumption) ?_; rotate_left; (focus ((try dsimp only at hSw); go_simp; first | done | exact rfl)); simp only [List.set]
    (refine wpAnyH_ready (rs := [1]) (by kernel_rfl) (by simp) ?_; refine AllReadyH.cons rfl (fun K hK => ?_) AllReadyH.nil; go_simp; (go_at_call 51; refine (igok_any N lo hi n _ L _ hL (HR.out.below (rk3_out (by assumption)).2 hh) (by have hq := (rk3_out (by assumption)).1; omega)).mono ?_; rw [hG]; rintro e w2 ⟨rfl, hb⟩); refine hK.out _ _ ?_ (fun hHeld => ?_); (focus ((first | assumption | exact rk3_drew hkk | exact rk3_drew (by assumption) | exact rk3_keep (by omega) (by omega) (by omega) (by omega) (by assumption) (by assumption)))); clear hK K)
    refine step_read 2 12 rfl rfl (by kernel_rfl) (by kernel_rfl) (by kernel_rfl) (fun _ _ _ h => h) (by rfl) (v := ?_) (fun w hSw => ?_) (by assumption) ?_; rotate_left; (focus ((try dsimp only at hSw); go_simp; first | done | exact rfl)); simp only [List.set]
    refine step_read 3 13 rfl rfl (by kernel_rfl) (by kernel_rfl) (by kernel_rfl) (fun _ _ _ h => h) (by rfl) (v := ?_) (fun w hSw => ?_) (by assumption) ?_; rotate_left; (focus ((try dsimp only at hSw); go_simp; first | done | exact rfl)); simp only [List.set]
    refine step_read 4 14 rfl rfl (by kernel_rfl) (by kernel_rfl) (by kernel_rfl) (fun _ _ _ h => h) (by rfl) (v := ?_) (fun w hSw => ?_) (by assumption) ?_; rotate_left; (focus ((try dsimp only at hSw); go_simp; first | done | exact rfl)); simp only [List.set]
    refine step_read 5 15 rfl rfl (by kernel_rfl) (by kernel_rfl) (by kernel_rfl) (fun _ _ _ h => h) (by rfl) (v := ?_) (fun w hSw => ?_) (by assumption) ?_; rotate_left; (focus ((try dsimp only at hSw); go_simp; first | done | exact rfl)); simp only [List.set]
    refine step_read 6 16 rfl rfl (by kernel_rfl) (by kernel_rfl) (by kernel_rfl) (fun _ _ _ h => h) (by rfl) (v := ?_) (fun w hSw => ?_) (by assumption) ?_; rotate_left; (focus ((try dsimp only at hSw); go_simp; first | done | exact rfl)); simp only [List.set]
    refine step_read 7 17 rfl rfl (by kernel_rfl) (by kernel_rfl) (by kernel_rfl) (fun _ _ _ h => h) (by rfl) (v := ?_) (fun w hSw => ?_) (by assumption) ?_; rotate_left; (focus ((try dsimp only at hSw); go_simp; first | done | exact rfl)); simp only [List.set]
    refine step_read 8 18 rfl rfl (by kernel_rfl) (by kernel_rfl) (by kernel_rfl) (fun _ _ _ h => h) (by rfl) (v := ?_) (fun w hSw => ?_) (by assumption) ?_; rotate_left; (focus ((try dsimp only at hSw); go_simp; first | done | exact rfl)); simp only [List.set]
    refine step_read 9 19 rfl rfl (by kernel_rfl) (by kernel_rfl) (by kernel_rfl) (fun _ _ _ h => h) (by rfl) (v := ?_) (fun w hSw => ?_) (by assumption) ?_; rotate_left; (focus ((try dsimp only at hSw); go_simp; first | done | exact rfl)); simp only [List.set]
    refine step_read 10 20 rfl rfl (by kernel_rfl) (by kernel_rfl) (by kernel_rfl) (fun _ _ _ h => h) (by rfl) (v := ?_) (fun w hSw => ?_) (by assumption) ?_; rotate_left; (focus ((try dsimp only at hSw); go_simp; first | done | exact rfl)); simp only [List.set]
    refine step_read 11 21 rfl rfl (by kernel_rfl) (by kernel_rfl) (by kernel_rfl) (fun _ _ _ h => h) (by rfl) (v := ?_) (fun w hSw => ?_) (by assumption) ?_; rotate_left; (focus ((try dsimp only at hSw); go_simp; first | done | exact rfl)); simp only [List.set]
    refine step_read 12 22 rfl rfl (by kernel_rfl) (by kernel_rfl) (by kernel_rfl) (fun _ _ _ h => h) (by rfl) (v := ?_) (fun w hSw => ?_) (by assumption) ?_; rotate_left; (focus ((try dsimp only at hSw); go_simp; first | done | exact rfl)); simp only [List.set]
    refine step_read 13 23 rfl rfl (by kernel_rfl) (by kernel_rfl) (by kernel_rfl) (fun _ _ _ h => h) (by rfl) (v := ?_) (fun w hSw => ?_) (by assumption) ?_; rotate_left; (focus ((try dsimp only at hSw); go_simp; first | done | exact rfl)); simp only [List.set]
    refine step_read 14 24 rfl rfl (by kernel_rfl) (by kernel_rfl) (by kernel_rfl) (fun _ _ _ h => h) (by rfl) (v := ?_) (fun w hSw => ?_) (by assumption) ?_; rotate_left; (focus ((try dsimp only at hSw); go_simp; first | done | exact rfl)); simp only [List.set]
    refine step_read 15 25 rfl rfl (by kernel_rfl) (by kernel_rfl) (by kernel_rfl) (fun _ _ _ h => h) (by rfl) (v := ?_) (fun w hSw => ?_) (by assumption) ?_; rotate_left; (focus ((try dsimp only at hSw); go_simp; first | done | exact rfl)); simp only [List.set]
    refine step_read 16 26 rfl rfl (by kernel_rfl) (by kernel_rfl) (by kernel_rfl) (fun _ _ _ h => h) (by rfl) (v := ?_) (fun w hSw => ?_) (by assumption) ?_; rotate_left; (focus ((try dsimp only at hSw); go_simp; first | done | exact rfl)); simp only [List.set]
    refine step_read 17 27 rfl rfl (by kernel_rfl) (by kernel_rfl) (by kernel_rfl) (fun _ _ _ h => h) (by rfl) (v := ?_) (fun w hSw => ?_) (by assumption) ?_; rotate_left; (focus ((try dsimp only at hSw); go_simp; first | done | exact rfl)); simp only [List.set]
    (refine wpAnyH_ready (rs := [18]) (by kernel_rfl) (by simp) ?_; refine AllReadyH.cons rfl (fun K hK => ?_) AllReadyH.nil; go_simp; (go_at_call 52; refine (hasNode_any N _ _ _ x _).mono ?_; rw [h1]; rintro e w2 ⟨rfl, hb⟩); refine hK.out _ _ ?_ (fun hHeld => ?_); (focus ((first | assumption | exact rk3_drew hkk | exact rk3_drew (by assumption) | exact rk3_keep (by omega) (by omega) (by omega) (by omega) (by assumption) (by assumption)))); clear hK K)
    refine step_read 19 29 rfl rfl (by kernel_rfl) (by kernel_rfl) (by kernel_rfl) (fun _ _ _ h => h) (by rfl) (v := ?_) (fun w hSw => ?_) (by assumption) ?_; rotate_left; (focus ((try dsimp only at hSw); go_simp; first | done | exact rfl)); simp only [List.set]
    refine step_read 20 30 rfl rfl (by kernel_rfl) (by kernel_rfl) (by kernel_rfl) (fun _ _ _ h => h) (by rfl) (v := ?_) (fun w hSw => ?_) (by assumption) ?_; rotate_left; (focus ((try dsimp only at hSw); go_simp; first | done | exact rfl)); simp only [List.set]
    refine wpAnyH_done (by kernel_rfl) ?_ _
    go_wp2_with fail
    go_ret
    exact ⟨by rw [Hno.out]; rfl, (rk3_out (by assumption)).2⟩

/-- What the model says that a way costs. -/
theorem iwc_any (N : Int) (lo hi n : Nat) (v : Value) (L : List Ed) (lw hw nw : Nat) (vw : Value) (W : List Int) (w : World) (hL : L.length = n) (hr : Row 3 w lo hi v n (flat L)) (hh : hi ≤ w.heap.size) (hrw : Row 1 w lw hw vw nw W) (hhw : hw ≤ w.heap.size) :
    Calls Try.prog 38 #[.agg #[.int .i64 N, v], vw] w fun e w' => e = .returned (.int .i64 (wcM N L W)) ∧ Below w.heap.size w w' := by
  have hW : W.length = nw := by have := hrw.1; omega
  obtain ⟨aw, cw, rfl, hn, hc⟩ := hrw.opened
  by_cases hG : gok N L = true
  · by_cases h0 : nw = 0
    · rw [wcM_0 (by omega)]
      exact iwc_0 N lo hi n v L nw aw cw w hL hr hh hG h0
    · by_cases h1 : nw ≤ 300
      · refine iwc_some N lo hi n v L nw aw cw W w hL hr hh hW hG (by omega) h1 fun h => ?_
        obtain ⟨g, g1, g2, g3⟩ := hc h
        exact ⟨g, g1, by omega, g3⟩
      · rw [wcM_big (by omega)]
        exact iwc_big N lo hi n v L nw aw cw w hL hr hh hG (by omega) hn
  · rw [Bool.not_eq_true] at hG
    rw [wcM_g hG]
    exact iwc_g N lo hi n v L nw aw cw w hL hr hh hG


end Go.Proofs.Ytjenjdhoblcohaa
