/- Remote of the model. -/
import Derived.Test.YtnpdbieadjgghaaGd
import Derived.Test.YtnpdbieadjgghaaOi
namespace Go.Proofs.Ytnpdbieadjgghaa
open Go.RowKit

/-- Whether some cheapest way from one node to another goes over the link of s and f. -/
def ovB (N : Int) (L : List Ed) (x y s f : Int) : Bool := (dsT N L x s + cst L s f + dsT N L f y == dsT N L x y) || (dsT N L x f + cst L f s + dsT N L s y == dsT N L x y)

set_option maxRecDepth 100000 in
set_option maxHeartbeats 4000000 in
theorem sover_any (M : Nat) (lo hi n : Nat) (v : Value) (L : List Ed) (x y s f : Nat) (w : World) (hG : gok (M : Int) L = true) (hL : L.length = n) (hr : Row 3 w lo hi v n (flat L)) (hh : hi ≤ w.heap.size) (hx : x < M) (hy : y < M) (hs : s < M) (hf : f < M) (hsf : (s : Int) ≠ (f : Int)) :
    Calls Try.prog 69 #[.agg #[.int .i64 (M : Int), v], .int .i64 (x : Int), .int .i64 (y : Int), .int .i64 (s : Int), .int .i64 (f : Int)] w fun e w' => e = .returned (.bool (ovB (M : Int) L (x : Int) (y : Int) (s : Int) (f : Int))) ∧ Below w.heap.size w w' := by
  obtain ⟨ad, cp, rfl⟩ := hr.slice
  have HG := Lib.hid (Gx.start (N := (M : Int)) hr hh)
  have D1 := Lib.hid (fun w lo hi n v hL hr hh => sdst_any M lo hi n v L x y w hG hL hr hh hx hy)
  have D2 := Lib.hid (fun w lo hi n v hL hr hh => sdst_any M lo hi n v L x s w hG hL hr hh hx hs)
  have D3 := Lib.hid (fun w lo hi n v hL hr hh => sdst_any M lo hi n v L f y w hG hL hr hh hf hy)
  have D4 := Lib.hid (fun w lo hi n v hL hr hh => sdst_any M lo hi n v L x f w hG hL hr hh hx hf)
  have D5 := Lib.hid (fun w lo hi n v hL hr hh => sdst_any M lo hi n v L s y w hG hL hr hh hs hy)
  have C1 : Hid (∀ w lo hi n v, L.length = n → Row 3 w lo hi v n (flat L) → hi ≤ w.heap.size → Calls Try.prog 63 #[.agg #[.int .i64 (M : Int), v], .int .i64 (s : Int), .int .i64 (f : Int)] w fun e w' => e = .returned (.int .i64 (cst L (s : Int) (f : Int))) ∧ Below w.heap.size w w') := fun w lo hi n v hL hr hh => by rw [← scost_cst hG hsf]; exact scost_any (M : Int) lo hi n v L _ _ w hG hL hr hh
  have C2 : Hid (∀ w lo hi n v, L.length = n → Row 3 w lo hi v n (flat L) → hi ≤ w.heap.size → Calls Try.prog 63 #[.agg #[.int .i64 (M : Int), v], .int .i64 (f : Int), .int .i64 (s : Int)] w fun e w' => e = .returned (.int .i64 (cst L (f : Int) (s : Int))) ∧ Below w.heap.size w w') := fun w lo hi n v hL hr hh => by rw [← scost_cst hG (fun e => hsf e.symm)]; exact scost_any (M : Int) lo hi n v L _ _ w hG hL hr hh
  have g2 := dsT_in hG hx (s : Int)
  have g3 := dsT_in hG hf (y : Int)
  have g4 := dsT_in hG hx (f : Int)
  have g5 := dsT_in hG hs (y : Int)
  have g6 := cst_bound hG (s : Int) (f : Int)
  have g7 := cst_bound hG (f : Int) (s : Int)
  unfold ovB
  generalize dsT (M : Int) L (x : Int) (y : Int) = q1 at *
  generalize dsT (M : Int) L (x : Int) (s : Int) = q2 at *
  generalize dsT (M : Int) L (f : Int) (y : Int) = q3 at *
  generalize dsT (M : Int) L (x : Int) (f : Int) = q4 at *
  generalize dsT (M : Int) L (s : Int) (y : Int) = q5 at *
  generalize cst L (s : Int) (f : Int) = c1 at *
  generalize cst L (f : Int) (s : Int) = c2 at *
  have u1 : IntKind.i64.wrap (q2 + c1) = q2 + c1 := by rw [IntKind.wrap_i64]; omega
  have u2 : IntKind.i64.wrap (q2 + c1 + q3) = q2 + c1 + q3 := by rw [IntKind.wrap_i64]; omega
  have u3 : IntKind.i64.wrap (q4 + c2) = q4 + c2 := by rw [IntKind.wrap_i64]; omega
  have u4 : IntKind.i64.wrap (q4 + c2 + q5) = q4 + c2 + q5 := by rw [IntKind.wrap_i64]; omega
  clear g2 g3 g4 g5 g6 g7 hr hG hx hy hs hf hsf
  go_enter Try.func69, Try.ntmps69
  go_wp2_with fail
  go_at_call 54
  refine (D1.out _ lo hi n _ hL HG.out.row HG.out.hi).mono ?_
  rintro e v1 ⟨rfl, b1⟩
  have H1 := Lib.hid (HG.out.grow b1)
  have c10 := H1.out.c0
  have c11 := H1.out.c1
  clear b1 D1
  by_cases a1 : q2 + c1 + q3 = q1
  · have z1 : (q2 + c1 + q3 == q1) = true := by rw [a1]; simp
    clear a1
    go_wp2_with fail
    refine wp_region_held_drew (S := (fun w' => w'.cell? ⟨w.heap.size, 0, none⟩ = some (.int .i64 (M : Int)) ∧ w'.cell? ⟨w.heap.size, 1, none⟩ = some (.slice ad n cp) ∧ Hid (Gx w w' (M : Int) ad n cp lo hi L))) (by kernel_rfl) ?_ (fun hHeld => ?_)
    · exact ⟨c10, c11, Lib.hid H1.out.drew⟩
    refine step_read 0 16 rfl rfl (by kernel_rfl) (by kernel_rfl) (by kernel_rfl) (fun _ _ _ h => h) (by rfl) (v := ?_) (fun w hSw => ?_) (by assumption) ?_; rotate_left; (focus ((try dsimp only at hSw); go_simp; first | done | exact rfl)); simp only [List.set]
    refine step_read 1 17 rfl rfl (by kernel_rfl) (by kernel_rfl) (by kernel_rfl) (fun _ _ _ h => h) (by rfl) (v := ?_) (fun w hSw => ?_) (by assumption) ?_; rotate_left; (focus ((try dsimp only at hSw); go_simp; first | done | exact rfl)); simp only [List.set]
    refine step_read 2 18 rfl rfl (by kernel_rfl) (by kernel_rfl) (by kernel_rfl) (fun _ _ _ h => h) (by rfl) (v := ?_) (fun w hSw => ?_) (by assumption) ?_; rotate_left; (focus ((try dsimp only at hSw); go_simp; first | done | exact rfl)); simp only [List.set]
    refine step_read 4 20 rfl rfl (by kernel_rfl) (by kernel_rfl) (by kernel_rfl) (fun _ _ _ h => h) (by rfl) (v := ?_) (fun w hSw => ?_) (by assumption) ?_; rotate_left; (focus ((try dsimp only at hSw); go_simp; first | done | exact rfl)); simp only [List.set]
    refine step_read 5 21 rfl rfl (by kernel_rfl) (by kernel_rfl) (by kernel_rfl) (fun _ _ _ h => h) (by rfl) (v := ?_) (fun w hSw => ?_) (by assumption) ?_; rotate_left; (focus ((try dsimp only at hSw); go_simp; first | done | exact rfl)); simp only [List.set]
    refine step_read 6 22 rfl rfl (by kernel_rfl) (by kernel_rfl) (by kernel_rfl) (fun _ _ _ h => h) (by rfl) (v := ?_) (fun w hSw => ?_) (by assumption) ?_; rotate_left; (focus ((try dsimp only at hSw); go_simp; first | done | exact rfl)); simp only [List.set]
    refine step_read 9 25 rfl rfl (by kernel_rfl) (by kernel_rfl) (by kernel_rfl) (fun _ _ _ h => h) (by rfl) (v := ?_) (fun w hSw => ?_) (by assumption) ?_; rotate_left; (focus ((try dsimp only at hSw); go_simp; first | done | exact rfl)); simp only [List.set]
    refine step_read 10 26 rfl rfl (by kernel_rfl) (by kernel_rfl) (by kernel_rfl) (fun _ _ _ h => h) (by rfl) (v := ?_) (fun w hSw => ?_) (by assumption) ?_; rotate_left; (focus ((try dsimp only at hSw); go_simp; first | done | exact rfl)); simp only [List.set]
    refine step_read 11 27 rfl rfl (by kernel_rfl) (by kernel_rfl) (by kernel_rfl) (fun _ _ _ h => h) (by rfl) (v := ?_) (fun w hSw => ?_) (by assumption) ?_; rotate_left; (focus ((try dsimp only at hSw); go_simp; first | done | exact rfl)); simp only [List.set]
    refine step_read 14 30 rfl rfl (by kernel_rfl) (by kernel_rfl) (by kernel_rfl) (fun _ _ _ h => h) (by rfl) (v := ?_) (fun w hSw => ?_) (by assumption) ?_; rotate_left; (focus ((try dsimp only at hSw); go_simp; first | done | exact rfl)); simp only [List.set]
    refine wpAnyH_ready (rs := [3]) (by kernel_rfl) (by simp) ?_
    refine AllReadyH.cons rfl (fun Kc hK => ?_) (AllReadyH.nil)
    go_simp
    go_at_call 54
    refine (D2.out _ lo hi n _ hL hHeld.2.2.out.row hHeld.2.2.out.hi).mono ?_
    rintro e u3 ⟨rfl, b3⟩
    have B3 := Lib.hid b3
    have Hh3 := Lib.hid hHeld
    have G3 := Lib.hid (hHeld.2.2.out.grow b3)
    clear hHeld b3
    refine hK.out _ _ ?_ (fun hHeld => ?_)
    · exact ⟨G3.out.c0, G3.out.c1, G3⟩
    clear hK Kc
    refine wpAnyH_ready (rs := [7]) (by kernel_rfl) (by simp) ?_
    refine AllReadyH.cons rfl (fun Kc hK => ?_) (AllReadyH.nil)
    go_simp
    go_at_call 63
    refine (C1.out _ lo hi n _ hL hHeld.2.2.out.row hHeld.2.2.out.hi).mono ?_
    rintro e u4 ⟨rfl, b4⟩
    have B4 := Lib.hid b4
    have Hh4 := Lib.hid hHeld
    have G4 := Lib.hid (hHeld.2.2.out.grow b4)
    clear hHeld b4
    refine hK.out _ _ ?_ (fun hHeld => ?_)
    · exact ⟨G4.out.c0, G4.out.c1, G4⟩
    clear hK Kc
    refine step_read 8 24 rfl rfl (by kernel_rfl) (by kernel_rfl) (by kernel_rfl) (fun _ _ _ h => h) (by rfl) (v := ?_) (fun w hSw => ?_) (by assumption) ?_; rotate_left; (focus ((try dsimp only at hSw); go_simp; first | done | exact rfl)); simp only [List.set]
    refine wpAnyH_ready (rs := [12]) (by kernel_rfl) (by simp) ?_
    refine AllReadyH.cons rfl (fun Kc hK => ?_) (AllReadyH.nil)
    go_simp
    go_at_call 54
    refine (D3.out _ lo hi n _ hL hHeld.2.2.out.row hHeld.2.2.out.hi).mono ?_
    rintro e u5 ⟨rfl, b5⟩
    have B5 := Lib.hid b5
    have Hh5 := Lib.hid hHeld
    have G5 := Lib.hid (hHeld.2.2.out.grow b5)
    clear hHeld b5
    refine hK.out _ _ ?_ (fun hHeld => ?_)
    · exact ⟨G5.out.c0, G5.out.c1, G5⟩
    clear hK Kc
    refine step_read 13 29 rfl rfl (by kernel_rfl) (by kernel_rfl) (by kernel_rfl) (fun _ _ _ h => h) (by rfl) (v := ?_) (fun w hSw => ?_) (by assumption) ?_; rotate_left; (focus ((try dsimp only at hSw); go_simp; first | done | exact rfl)); simp only [List.set]
    refine step_read 15 31 rfl rfl (by kernel_rfl) (by kernel_rfl) (by kernel_rfl) (fun _ _ _ h => h) (by rfl) (v := ?_) (fun w hSw => ?_) (by assumption) ?_; rotate_left; (focus ((try dsimp only at hSw); go_simp; first | done | exact rfl)); simp only [List.set]
    refine step_read 16 32 rfl rfl (by kernel_rfl) (by kernel_rfl) (by kernel_rfl) (fun _ _ _ h => h) (by rfl) (v := ?_) (fun w hSw => ?_) (by assumption) ?_; rotate_left; (focus ((try dsimp only at hSw); go_simp; first | done | exact rfl)); simp only [List.set]
    refine step_skip 17 33 rfl rfl (by kernel_rfl) (by kernel_rfl) (by kernel_rfl) (fun _ _ _ h => h) (by rfl) (by assumption) ?_; simp only [List.set]
    refine step_skip 18 34 rfl rfl (by kernel_rfl) (by kernel_rfl) (by kernel_rfl) (fun _ _ _ h => h) (by rfl) (by assumption) ?_; simp only [List.set]
    refine step_skip 19 35 rfl rfl (by kernel_rfl) (by kernel_rfl) (by kernel_rfl) (fun _ _ _ h => h) (by rfl) (by assumption) ?_; simp only [List.set]
    refine step_skip 20 36 rfl rfl (by kernel_rfl) (by kernel_rfl) (by kernel_rfl) (fun _ _ _ h => h) (by rfl) (by assumption) ?_; simp only [List.set]
    refine step_skip 21 37 rfl rfl (by kernel_rfl) (by kernel_rfl) (by kernel_rfl) (fun _ _ _ h => h) (by rfl) (by assumption) ?_; simp only [List.set]
    refine step_skip 22 38 rfl rfl (by kernel_rfl) (by kernel_rfl) (by kernel_rfl) (fun _ _ _ h => h) (by rfl) (by assumption) ?_; simp only [List.set]
    refine step_skip 23 39 rfl rfl (by kernel_rfl) (by kernel_rfl) (by kernel_rfl) (fun _ _ _ h => h) (by rfl) (by assumption) ?_; simp only [List.set]
    refine step_skip 24 40 rfl rfl (by kernel_rfl) (by kernel_rfl) (by kernel_rfl) (fun _ _ _ h => h) (by rfl) (by assumption) ?_; simp only [List.set]
    refine step_skip 25 41 rfl rfl (by kernel_rfl) (by kernel_rfl) (by kernel_rfl) (fun _ _ _ h => h) (by rfl) (by assumption) ?_; simp only [List.set]
    refine step_skip 26 42 rfl rfl (by kernel_rfl) (by kernel_rfl) (by kernel_rfl) (fun _ _ _ h => h) (by rfl) (by assumption) ?_; simp only [List.set]
    refine step_skip 27 43 rfl rfl (by kernel_rfl) (by kernel_rfl) (by kernel_rfl) (fun _ _ _ h => h) (by rfl) (by assumption) ?_; simp only [List.set]
    refine step_skip 28 44 rfl rfl (by kernel_rfl) (by kernel_rfl) (by kernel_rfl) (fun _ _ _ h => h) (by rfl) (by assumption) ?_; simp only [List.set]
    refine step_skip 29 45 rfl rfl (by kernel_rfl) (by kernel_rfl) (by kernel_rfl) (fun _ _ _ h => h) (by rfl) (by assumption) ?_; simp only [List.set]
    refine step_skip 30 46 rfl rfl (by kernel_rfl) (by kernel_rfl) (by kernel_rfl) (fun _ _ _ h => h) (by rfl) (by assumption) ?_; simp only [List.set]
    refine step_skip 31 47 rfl rfl (by kernel_rfl) (by kernel_rfl) (by kernel_rfl) (fun _ _ _ h => h) (by rfl) (by assumption) ?_; simp only [List.set]
    refine step_skip 32 48 rfl rfl (by kernel_rfl) (by kernel_rfl) (by kernel_rfl) (fun _ _ _ h => h) (by rfl) (by assumption) ?_; simp only [List.set]
    refine step_read 33 49 rfl rfl (by kernel_rfl) (by kernel_rfl) (by kernel_rfl) (fun _ _ _ h => h) (by rfl) (v := ?_) (fun w hSw => ?_) (by assumption) ?_; rotate_left; (focus ((try dsimp only at hSw); go_simp; first | done | exact rfl)); simp only [List.set]
    refine step_read 34 10 rfl rfl (by kernel_rfl) (by kernel_rfl) (by kernel_rfl) (fun _ _ _ h => h) (by rfl) (v := ?_) (fun w hSw => ?_) (by assumption) ?_; rotate_left; (focus ((try dsimp only at hSw); go_simp; first | done | exact rfl)); simp only [List.set]
    refine wpAnyH_done (by kernel_rfl) ?_ _
    have HE := hHeld.2.2
    clear hHeld
    go_wp2
    go_ret
    exact ⟨by rw [z1]; simp, HE.out.below⟩
  · have z1 : (q2 + c1 + q3 == q1) = false := beq_eq_false_iff_ne.2 a1
    clear a1
    go_wp2_with fail
    refine wp_region_held_drew (S := (fun w' => w'.cell? ⟨w.heap.size, 0, none⟩ = some (.int .i64 (M : Int)) ∧ w'.cell? ⟨w.heap.size, 1, none⟩ = some (.slice ad n cp) ∧ Hid (Gx w w' (M : Int) ad n cp lo hi L))) (by kernel_rfl) ?_ (fun hHeld => ?_)
    · exact ⟨c10, c11, Lib.hid H1.out.drew⟩
    refine step_read 0 16 rfl rfl (by kernel_rfl) (by kernel_rfl) (by kernel_rfl) (fun _ _ _ h => h) (by rfl) (v := ?_) (fun w hSw => ?_) (by assumption) ?_; rotate_left; (focus ((try dsimp only at hSw); go_simp; first | done | exact rfl)); simp only [List.set]
    refine step_read 1 17 rfl rfl (by kernel_rfl) (by kernel_rfl) (by kernel_rfl) (fun _ _ _ h => h) (by rfl) (v := ?_) (fun w hSw => ?_) (by assumption) ?_; rotate_left; (focus ((try dsimp only at hSw); go_simp; first | done | exact rfl)); simp only [List.set]
    refine step_read 2 18 rfl rfl (by kernel_rfl) (by kernel_rfl) (by kernel_rfl) (fun _ _ _ h => h) (by rfl) (v := ?_) (fun w hSw => ?_) (by assumption) ?_; rotate_left; (focus ((try dsimp only at hSw); go_simp; first | done | exact rfl)); simp only [List.set]
    refine step_read 4 20 rfl rfl (by kernel_rfl) (by kernel_rfl) (by kernel_rfl) (fun _ _ _ h => h) (by rfl) (v := ?_) (fun w hSw => ?_) (by assumption) ?_; rotate_left; (focus ((try dsimp only at hSw); go_simp; first | done | exact rfl)); simp only [List.set]
    refine step_read 5 21 rfl rfl (by kernel_rfl) (by kernel_rfl) (by kernel_rfl) (fun _ _ _ h => h) (by rfl) (v := ?_) (fun w hSw => ?_) (by assumption) ?_; rotate_left; (focus ((try dsimp only at hSw); go_simp; first | done | exact rfl)); simp only [List.set]
    refine step_read 6 22 rfl rfl (by kernel_rfl) (by kernel_rfl) (by kernel_rfl) (fun _ _ _ h => h) (by rfl) (v := ?_) (fun w hSw => ?_) (by assumption) ?_; rotate_left; (focus ((try dsimp only at hSw); go_simp; first | done | exact rfl)); simp only [List.set]
    refine step_read 9 25 rfl rfl (by kernel_rfl) (by kernel_rfl) (by kernel_rfl) (fun _ _ _ h => h) (by rfl) (v := ?_) (fun w hSw => ?_) (by assumption) ?_; rotate_left; (focus ((try dsimp only at hSw); go_simp; first | done | exact rfl)); simp only [List.set]
    refine step_read 10 26 rfl rfl (by kernel_rfl) (by kernel_rfl) (by kernel_rfl) (fun _ _ _ h => h) (by rfl) (v := ?_) (fun w hSw => ?_) (by assumption) ?_; rotate_left; (focus ((try dsimp only at hSw); go_simp; first | done | exact rfl)); simp only [List.set]
    refine step_read 11 27 rfl rfl (by kernel_rfl) (by kernel_rfl) (by kernel_rfl) (fun _ _ _ h => h) (by rfl) (v := ?_) (fun w hSw => ?_) (by assumption) ?_; rotate_left; (focus ((try dsimp only at hSw); go_simp; first | done | exact rfl)); simp only [List.set]
    refine step_read 14 30 rfl rfl (by kernel_rfl) (by kernel_rfl) (by kernel_rfl) (fun _ _ _ h => h) (by rfl) (v := ?_) (fun w hSw => ?_) (by assumption) ?_; rotate_left; (focus ((try dsimp only at hSw); go_simp; first | done | exact rfl)); simp only [List.set]
    refine wpAnyH_ready (rs := [3]) (by kernel_rfl) (by simp) ?_
    refine AllReadyH.cons rfl (fun Kc hK => ?_) (AllReadyH.nil)
    go_simp
    go_at_call 54
    refine (D2.out _ lo hi n _ hL hHeld.2.2.out.row hHeld.2.2.out.hi).mono ?_
    rintro e u3 ⟨rfl, b3⟩
    have B3 := Lib.hid b3
    have Hh3 := Lib.hid hHeld
    have G3 := Lib.hid (hHeld.2.2.out.grow b3)
    clear hHeld b3
    refine hK.out _ _ ?_ (fun hHeld => ?_)
    · exact ⟨G3.out.c0, G3.out.c1, G3⟩
    clear hK Kc
    refine wpAnyH_ready (rs := [7]) (by kernel_rfl) (by simp) ?_
    refine AllReadyH.cons rfl (fun Kc hK => ?_) (AllReadyH.nil)
    go_simp
    go_at_call 63
    refine (C1.out _ lo hi n _ hL hHeld.2.2.out.row hHeld.2.2.out.hi).mono ?_
    rintro e u4 ⟨rfl, b4⟩
    have B4 := Lib.hid b4
    have Hh4 := Lib.hid hHeld
    have G4 := Lib.hid (hHeld.2.2.out.grow b4)
    clear hHeld b4
    refine hK.out _ _ ?_ (fun hHeld => ?_)
    · exact ⟨G4.out.c0, G4.out.c1, G4⟩
    clear hK Kc
    refine step_read 8 24 rfl rfl (by kernel_rfl) (by kernel_rfl) (by kernel_rfl) (fun _ _ _ h => h) (by rfl) (v := ?_) (fun w hSw => ?_) (by assumption) ?_; rotate_left; (focus ((try dsimp only at hSw); go_simp; first | done | exact rfl)); simp only [List.set]
    refine wpAnyH_ready (rs := [12]) (by kernel_rfl) (by simp) ?_
    refine AllReadyH.cons rfl (fun Kc hK => ?_) (AllReadyH.nil)
    go_simp
    go_at_call 54
    refine (D3.out _ lo hi n _ hL hHeld.2.2.out.row hHeld.2.2.out.hi).mono ?_
    rintro e u5 ⟨rfl, b5⟩
    have B5 := Lib.hid b5
    have Hh5 := Lib.hid hHeld
    have G5 := Lib.hid (hHeld.2.2.out.grow b5)
    clear hHeld b5
    refine hK.out _ _ ?_ (fun hHeld => ?_)
    · exact ⟨G5.out.c0, G5.out.c1, G5⟩
    clear hK Kc
    refine step_read 13 29 rfl rfl (by kernel_rfl) (by kernel_rfl) (by kernel_rfl) (fun _ _ _ h => h) (by rfl) (v := ?_) (fun w hSw => ?_) (by assumption) ?_; rotate_left; (focus ((try dsimp only at hSw); go_simp; first | done | exact rfl)); simp only [List.set]
    refine step_read 15 31 rfl rfl (by kernel_rfl) (by kernel_rfl) (by kernel_rfl) (fun _ _ _ h => h) (by rfl) (v := ?_) (fun w hSw => ?_) (by assumption) ?_; rotate_left; (focus ((try dsimp only at hSw); go_simp; first | done | exact rfl)); simp only [List.set]
    refine step_read 16 32 rfl rfl (by kernel_rfl) (by kernel_rfl) (by kernel_rfl) (fun _ _ _ h => h) (by rfl) (v := ?_) (fun w hSw => ?_) (by assumption) ?_; rotate_left; (focus ((try dsimp only at hSw); go_simp; first | done | exact rfl)); simp only [List.set]
    refine step_read 17 33 rfl rfl (by kernel_rfl) (by kernel_rfl) (by kernel_rfl) (fun _ _ _ h => h) (by rfl) (v := ?_) (fun w hSw => ?_) (by assumption) ?_; rotate_left; (focus ((try dsimp only at hSw); go_simp; first | done | exact rfl)); simp only [List.set]
    refine step_read 18 34 rfl rfl (by kernel_rfl) (by kernel_rfl) (by kernel_rfl) (fun _ _ _ h => h) (by rfl) (v := ?_) (fun w hSw => ?_) (by assumption) ?_; rotate_left; (focus ((try dsimp only at hSw); go_simp; first | done | exact rfl)); simp only [List.set]
    refine step_read 19 35 rfl rfl (by kernel_rfl) (by kernel_rfl) (by kernel_rfl) (fun _ _ _ h => h) (by rfl) (v := ?_) (fun w hSw => ?_) (by assumption) ?_; rotate_left; (focus ((try dsimp only at hSw); go_simp; first | done | exact rfl)); simp only [List.set]
    refine step_read 21 37 rfl rfl (by kernel_rfl) (by kernel_rfl) (by kernel_rfl) (fun _ _ _ h => h) (by rfl) (v := ?_) (fun w hSw => ?_) (by assumption) ?_; rotate_left; (focus ((try dsimp only at hSw); go_simp; first | done | exact rfl)); simp only [List.set]
    refine step_read 22 38 rfl rfl (by kernel_rfl) (by kernel_rfl) (by kernel_rfl) (fun _ _ _ h => h) (by rfl) (v := ?_) (fun w hSw => ?_) (by assumption) ?_; rotate_left; (focus ((try dsimp only at hSw); go_simp; first | done | exact rfl)); simp only [List.set]
    refine step_read 23 39 rfl rfl (by kernel_rfl) (by kernel_rfl) (by kernel_rfl) (fun _ _ _ h => h) (by rfl) (v := ?_) (fun w hSw => ?_) (by assumption) ?_; rotate_left; (focus ((try dsimp only at hSw); go_simp; first | done | exact rfl)); simp only [List.set]
    refine step_read 26 42 rfl rfl (by kernel_rfl) (by kernel_rfl) (by kernel_rfl) (fun _ _ _ h => h) (by rfl) (v := ?_) (fun w hSw => ?_) (by assumption) ?_; rotate_left; (focus ((try dsimp only at hSw); go_simp; first | done | exact rfl)); simp only [List.set]
    refine step_read 27 43 rfl rfl (by kernel_rfl) (by kernel_rfl) (by kernel_rfl) (fun _ _ _ h => h) (by rfl) (v := ?_) (fun w hSw => ?_) (by assumption) ?_; rotate_left; (focus ((try dsimp only at hSw); go_simp; first | done | exact rfl)); simp only [List.set]
    refine step_read 28 44 rfl rfl (by kernel_rfl) (by kernel_rfl) (by kernel_rfl) (fun _ _ _ h => h) (by rfl) (v := ?_) (fun w hSw => ?_) (by assumption) ?_; rotate_left; (focus ((try dsimp only at hSw); go_simp; first | done | exact rfl)); simp only [List.set]
    refine step_read 31 47 rfl rfl (by kernel_rfl) (by kernel_rfl) (by kernel_rfl) (fun _ _ _ h => h) (by rfl) (v := ?_) (fun w hSw => ?_) (by assumption) ?_; rotate_left; (focus ((try dsimp only at hSw); go_simp; first | done | exact rfl)); simp only [List.set]
    refine wpAnyH_ready (rs := [20]) (by kernel_rfl) (by simp) ?_
    refine AllReadyH.cons rfl (fun Kc hK => ?_) (AllReadyH.nil)
    go_simp
    go_at_call 54
    refine (D4.out _ lo hi n _ hL hHeld.2.2.out.row hHeld.2.2.out.hi).mono ?_
    rintro e u6 ⟨rfl, b6⟩
    have B6 := Lib.hid b6
    have Hh6 := Lib.hid hHeld
    have G6 := Lib.hid (hHeld.2.2.out.grow b6)
    clear hHeld b6
    refine hK.out _ _ ?_ (fun hHeld => ?_)
    · exact ⟨G6.out.c0, G6.out.c1, G6⟩
    clear hK Kc
    refine wpAnyH_ready (rs := [24]) (by kernel_rfl) (by simp) ?_
    refine AllReadyH.cons rfl (fun Kc hK => ?_) (AllReadyH.nil)
    go_simp
    go_at_call 63
    refine (C2.out _ lo hi n _ hL hHeld.2.2.out.row hHeld.2.2.out.hi).mono ?_
    rintro e u7 ⟨rfl, b7⟩
    have B7 := Lib.hid b7
    have Hh7 := Lib.hid hHeld
    have G7 := Lib.hid (hHeld.2.2.out.grow b7)
    clear hHeld b7
    refine hK.out _ _ ?_ (fun hHeld => ?_)
    · exact ⟨G7.out.c0, G7.out.c1, G7⟩
    clear hK Kc
    refine step_read 25 41 rfl rfl (by kernel_rfl) (by kernel_rfl) (by kernel_rfl) (fun _ _ _ h => h) (by rfl) (v := ?_) (fun w hSw => ?_) (by assumption) ?_; rotate_left; (focus ((try dsimp only at hSw); go_simp; first | done | exact rfl)); simp only [List.set]
    refine wpAnyH_ready (rs := [29]) (by kernel_rfl) (by simp) ?_
    refine AllReadyH.cons rfl (fun Kc hK => ?_) (AllReadyH.nil)
    go_simp
    go_at_call 54
    refine (D5.out _ lo hi n _ hL hHeld.2.2.out.row hHeld.2.2.out.hi).mono ?_
    rintro e u8 ⟨rfl, b8⟩
    have B8 := Lib.hid b8
    have Hh8 := Lib.hid hHeld
    have G8 := Lib.hid (hHeld.2.2.out.grow b8)
    clear hHeld b8
    refine hK.out _ _ ?_ (fun hHeld => ?_)
    · exact ⟨G8.out.c0, G8.out.c1, G8⟩
    clear hK Kc
    refine step_read 30 46 rfl rfl (by kernel_rfl) (by kernel_rfl) (by kernel_rfl) (fun _ _ _ h => h) (by rfl) (v := ?_) (fun w hSw => ?_) (by assumption) ?_; rotate_left; (focus ((try dsimp only at hSw); go_simp; first | done | exact rfl)); simp only [List.set]
    refine step_read 32 48 rfl rfl (by kernel_rfl) (by kernel_rfl) (by kernel_rfl) (fun _ _ _ h => h) (by rfl) (v := ?_) (fun w hSw => ?_) (by assumption) ?_; rotate_left; (focus ((try dsimp only at hSw); go_simp; first | done | exact rfl)); simp only [List.set]
    refine step_read 33 49 rfl rfl (by kernel_rfl) (by kernel_rfl) (by kernel_rfl) (fun _ _ _ h => h) (by rfl) (v := ?_) (fun w hSw => ?_) (by assumption) ?_; rotate_left; (focus ((try dsimp only at hSw); go_simp; first | done | exact rfl)); simp only [List.set]
    refine step_read 34 10 rfl rfl (by kernel_rfl) (by kernel_rfl) (by kernel_rfl) (fun _ _ _ h => h) (by rfl) (v := ?_) (fun w hSw => ?_) (by assumption) ?_; rotate_left; (focus ((try dsimp only at hSw); go_simp; first | done | exact rfl)); simp only [List.set]
    refine wpAnyH_done (by kernel_rfl) ?_ _
    have HE := hHeld.2.2
    clear hHeld
    go_wp2
    go_ret
    exact ⟨by rw [z1]; simp, HE.out.below⟩

theorem spr_ov {N : Int} {L : List Ed} (hG : gok N L = true) {s f x y : Int} (hx : 0 ≤ x ∧ x < N) (hs : 0 ≤ s ∧ s < N) (hf : 0 ≤ f ∧ f < N) : sprB N L s f x y = (decide (dsT N L x y ≠ Far) && !ovB N L x y s f) := by
  rw [Bool.eq_iff_iff, sprB_iff hG hx hs hf]
  unfold ovB
  simp only [Bool.and_eq_true, decide_eq_true_iff, Bool.not_eq_true', Bool.or_eq_false_iff, beq_eq_false_iff_ne]

set_option maxRecDepth 100000 in
set_option maxHeartbeats 4000000 in
theorem srem_any (N : Int) (lo hi n : Nat) (v : Value) (L : List Ed) (s f d : Int) (w : World) (hL : L.length = n) (hr : Row 3 w lo hi v n (flat L)) (hh : hi ≤ w.heap.size) :
    Calls Try.prog 29 #[.agg #[.int .i64 N, v], .int .i64 s, .int .i64 f, .int .i64 d] w (LjPost (remL N L s f d) w) := by
  obtain ⟨ad, cp, rfl⟩ := hr.slice
  have HG := Lib.hid (Gx.start (N := N) hr hh)
  have HG1 := Lib.hid (HG.out.grow ((Below.refl _ _).alloc (Nat.le_refl _) (.cells #[] 3)))
  obtain ⟨i3, hi3, hz0, hz1, hz2⟩ := info_parts Try.info3
  have I := Lib.hid (And.intro hi3 (And.intro hz0 (And.intro hz1 hz2)))
  clear hi3 hz0 hz1 hz2
  have HX0 : Hid (Row 1 (((w.alloc (.cells #[.int .i64 N, .slice ad n cp] 29)).alloc (.cells #[] 3)).alloc (.cells #[.int .i64 s, .int .i64 f, .int .i64 d] 3)) (w.heap.size + 1 + 1) (w.heap.size + 1 + 1 + 1) (.slice (some ⟨w.heap.size + 1 + 1, 0, none⟩) 3 3) 3 [s, f, d]) := by
    refine ⟨rfl, .inr ⟨_, 3, rfl, Nat.le_refl _, by omega, by omega, fun q z hz => ?_, fun o => by simp [go_sem]⟩⟩
    rcases q with _ | _ | _ | q
    · simp at hz; subst hz; simp [go_sem]
    · simp at hz; subst hz; simp [go_sem]
    · simp at hz; subst hz; simp [go_sem]
    · simp at hz
  have HGX := Lib.hid (HG1.out.grow ((Below.refl _ _).alloc (Nat.le_refl _) (.cells #[.int .i64 s, .int .i64 f, .int .i64 d] 3)))
  clear hr
  go_enter Try.func29, Try.ntmps29
  go_wp2_with fail
  go_at_call 52
  refine (sgood_any N lo hi n _ L _ _ 3 _ [s, f, d] _ hL HGX.out.row HGX.out.hi HX0.out (by simp) (by omega)).mono ?_
  rintro e v1 ⟨rfl, b1⟩
  have H1 := Lib.hid (HGX.out.grow b1)
  have c10 := H1.out.c0
  have c11 := H1.out.c1
  have HOW : Hid (OwnI (w.alloc (.cells #[.int .i64 N, .slice ad n cp] 29)) v1 (.slice (some ⟨w.heap.size + 1, 0, none⟩) 0 0) 0 []) := by
    have h := OwnI.lit0 (w.alloc (.cells #[.int .i64 N, .slice ad n cp] 29))
    simp only [World.size_alloc] at h
    exact (h.grow ((Below.refl _ _).alloc (Nat.le_refl _) (.cells #[.int .i64 s, .int .i64 f, .int .i64 d] 3))).grow b1
  clear b1 HX0 HGX
  by_cases hg : g10 N L [s, f, d] = true
  · have HK := Lib.hid (g10_gok hg)
    have HND := Lib.hid (g10_nodes hg)
    have HGG := Lib.hid hg
    rw [hg]
    clear hg
    go_wp2_with fail
    go_at_call 53
    refine (snear_any N lo hi n _ L s f _ HK.out hL H1.out.row H1.out.hi).mono ?_
    rintro e v2 ⟨rfl, b2⟩
    have HO2 := Lib.hid (HOW.out.grow b2)
    clear HOW
    have H2 := Lib.hid (H1.out.grow b2)
    have c20 := H2.out.c0
    have c21 := H2.out.c1
    clear b2 c10 c11
    by_cases hnr : nearB L s f = true
    · have HRP : Hid (repB N L s f d = true) := by show repB _ _ _ _ _ = true; unfold repB; rw [HGG.out, hnr]; rfl
      have HSF : Hid (s ≠ f) := ((nearB_iff HK.out).1 hnr).1
      rw [hnr]
      clear hnr
      by_cases hsd : s = d
      · have z0 : (s == d) = true := by rw [hsd]; simp
        have HV : Hid (remL N L s f d = []) := by show remL _ _ _ _ _ = []; unfold remL; rw [if_neg (fun h => h.2 hsd)]
        clear hsd
        go_wp2
        go_ret
        exact ⟨_, rfl, by rw [HV.out]; exact Row.empty _ _ _ _ _ _, H2.out.below⟩
      · have z0 : (s == d) = false := beq_eq_false_iff_ne.2 hsd
        have HSD := Lib.hid hsd
        clear hsd
        obtain ⟨M, rfl⟩ : ∃ M : Nat, N = (M : Int) := ⟨N.toNat, by have := (gok_parts HK.out).1; omega⟩
        obtain ⟨s', rfl⟩ : ∃ q : Nat, s = (q : Int) := ⟨s.toNat, by have := HND.out s (by simp); omega⟩
        obtain ⟨f', rfl⟩ : ∃ q : Nat, f = (q : Int) := ⟨f.toNat, by have := HND.out f (by simp); omega⟩
        obtain ⟨d', rfl⟩ : ∃ q : Nat, d = (q : Int) := ⟨d.toNat, by have := HND.out d (by simp); omega⟩
        have hsM : s' < M := by have := HND.out (s' : Int) (by simp); omega
        have hfM : f' < M := by have := HND.out (f' : Int) (by simp); omega
        have hdM : d' < M := by have := HND.out (d' : Int) (by simp); omega
        have hM10 : M ≤ 10 := by have := (gok_parts HK.out).2.1; omega
        clear c20 c21
        have HS0 := H2.out.below.size
        have HW0 : Hid ((w.alloc (.cells #[.int .i64 (M : Int), .slice ad n cp] 29)).heap.size = w.heap.size + 1) := by show _ = _; simp
        have HB0 : Hid (Below w.heap.size w (w.alloc (.cells #[.int .i64 (M : Int), .slice ad n cp] 29))) := (Below.refl _ _).alloc (Nat.le_refl _) _
        generalize (w.alloc (.cells #[.int .i64 (M : Int), .slice ad n cp] 29)) = w0 at *
        go_wp2_with fail
        go_loopw [9, 10] (fun v i wr => ∃ k : Nat, k ≤ M ∧ i = .int .i64 (k : Int) ∧ Hid (Gx w wr (M : Int) ad n cp lo hi L) ∧ Hid (OwnI w0 wr v (firstN k (remB (M : Int) L (s' : Int) (f' : Int) (d' : Int))).length (firstN k (remB (M : Int) L (s' : Int) (f' : Int) (d' : Int))))) (fun _ i _ => M - (intOf i).toNat)
        case atStart => exact ⟨0, Nat.zero_le _, rfl, H2, HO2⟩
        case round =>
          obtain ⟨k, hk, rfl, hR, hO⟩ := hrel
          have c0 := hR.out.c0
          have c1 := hR.out.c1
          by_cases hlt : k < M
          · have q1 : (k : Int) < (M : Int) := by omega
            have hlen := firstN_len k (remB (M : Int) L (s' : Int) (f' : Int) (d' : Int))
            by_cases e1 : (k : Int) = (s' : Int)
            · have z1 : ((k : Int) == (s' : Int)) = true := by rw [e1]; simp
              have hno : remB (M : Int) L (s' : Int) (f' : Int) (d' : Int) (k : Int) = false := by unfold remB; rw [z1]; rfl
              clear e1
              have HF := Lib.hid (firstN_no (i := k) (p := (remB (M : Int) L (s' : Int) (f' : Int) (d' : Int))) (hno))
              clear hno
              go_wp2_with fail
              go_roundw
              case rel => exact ⟨k + 1, by omega, by go_num, hR, by rw [HF.out]; exact hO⟩
              case measure => simp [intOf]; omega
            · have z1 : ((k : Int) == (s' : Int)) = false := beq_eq_false_iff_ne.2 e1
              clear e1
              by_cases e2 : (k : Int) = (f' : Int)
              · have z2 : ((k : Int) == (f' : Int)) = true := by rw [e2]; simp
                have hno : remB (M : Int) L (s' : Int) (f' : Int) (d' : Int) (k : Int) = false := by unfold remB; rw [z2]; simp
                clear e2
                have HF := Lib.hid (firstN_no (i := k) (p := (remB (M : Int) L (s' : Int) (f' : Int) (d' : Int))) (hno))
                clear hno
                go_wp2_with fail
                go_roundw
                case rel => exact ⟨k + 1, by omega, by go_num, hR, by rw [HF.out]; exact hO⟩
                case measure => simp [intOf]; omega
              · have z2 : ((k : Int) == (f' : Int)) = false := beq_eq_false_iff_ne.2 e2
                clear e2
                have D1 := Lib.hid (fun w lo hi n v hL hr hh => sdst_any M lo hi n v L s' k w HK.out hL hr hh hsM hlt)
                have D2 := Lib.hid (fun w lo hi n v hL hr hh => sdst_any M lo hi n v L k d' w HK.out hL hr hh hlt hdM)
                have D3 := Lib.hid (fun w lo hi n v hL hr hh => sover_any M lo hi n v L s' k s' f' w HK.out hL hr hh hsM hlt hsM hfM HSF.out)
                have D4 := Lib.hid (fun w lo hi n v hL hr hh => sover_any M lo hi n v L k d' s' f' w HK.out hL hr hh hlt hdM hsM hfM HSF.out)
                have HV0 : Hid (remB (M : Int) L (s' : Int) (f' : Int) (d' : Int) (k : Int) = ((decide (dsT (M : Int) L (s' : Int) (k : Int) ≠ 1000000) && !ovB (M : Int) L (s' : Int) (k : Int) (s' : Int) (f' : Int)) && (decide (dsT (M : Int) L (k : Int) (d' : Int) ≠ 1000000) && !ovB (M : Int) L (k : Int) (d' : Int) (s' : Int) (f' : Int)))) := by
                  show _ = _
                  unfold remB
                  rw [z1, z2, spr_ov HK.out (by omega) (by omega) (by omega), spr_ov HK.out (by omega) (by omega) (by omega), far_val]
                  rfl
                generalize dsT (M : Int) L (s' : Int) (k : Int) = q1 at *
                generalize dsT (M : Int) L (k : Int) (d' : Int) = q2 at *
                generalize ovB (M : Int) L (s' : Int) (k : Int) (s' : Int) (f' : Int) = o1 at *
                generalize ovB (M : Int) L (k : Int) (d' : Int) (s' : Int) (f' : Int) = o2 at *
                have K0 := hR
                have P0 := hO
                clear hR hO
                go_wp2_with fail
                go_at_call 54
                refine (D1.out _ lo hi n _ hL K0.out.row K0.out.hi).mono ?_
                rintro e v1k ⟨rfl, b1⟩
                have K1 := Lib.hid (K0.out.grow b1)
                have P1 := Lib.hid (P0.out.grow b1)
                have k10 := K1.out.c0
                have k11 := K1.out.c1
                clear b1 K0 P0 c0 c1
                by_cases e3 : q1 = 1000000
                · have z3 : (q1 == 1000000) = true := by rw [e3]; simp
                  have hno : remB (M : Int) L (s' : Int) (f' : Int) (d' : Int) (k : Int) = false := by rw [HV0.out, decide_eq_false (fun h => h e3)]; simp
                  clear e3
                  have HF := Lib.hid (firstN_no (i := k) (p := (remB (M : Int) L (s' : Int) (f' : Int) (d' : Int))) (hno))
                  clear hno
                  go_wp2_with fail
                  go_roundw
                  case rel => exact ⟨k + 1, by omega, by go_num, K1, by rw [HF.out]; exact P1⟩
                  case measure => simp [intOf]; omega
                · have z3 : (q1 == 1000000) = false := beq_eq_false_iff_ne.2 e3
                  have y3 : Hid (decide (q1 ≠ 1000000) = true) := decide_eq_true e3
                  clear e3
                  go_wp2_with fail
                  go_at_call 54
                  refine (D2.out _ lo hi n _ hL K1.out.row K1.out.hi).mono ?_
                  rintro e v2k ⟨rfl, b2⟩
                  have K2 := Lib.hid (K1.out.grow b2)
                  have P2 := Lib.hid (P1.out.grow b2)
                  have k20 := K2.out.c0
                  have k21 := K2.out.c1
                  clear b2 K1 P1 k10 k11
                  by_cases e4 : q2 = 1000000
                  · have z4 : (q2 == 1000000) = true := by rw [e4]; simp
                    have hno : remB (M : Int) L (s' : Int) (f' : Int) (d' : Int) (k : Int) = false := by rw [HV0.out, decide_eq_false (fun h : q2 ≠ 1000000 => h e4)]; simp
                    clear e4
                    have HF := Lib.hid (firstN_no (i := k) (p := (remB (M : Int) L (s' : Int) (f' : Int) (d' : Int))) (hno))
                    clear hno
                    go_wp2_with fail
                    go_roundw
                    case rel => exact ⟨k + 1, by omega, by go_num, K2, by rw [HF.out]; exact P2⟩
                    case measure => simp [intOf]; omega
                  · have z4 : (q2 == 1000000) = false := beq_eq_false_iff_ne.2 e4
                    have y4 : Hid (decide (q2 ≠ 1000000) = true) := decide_eq_true e4
                    clear e4
                    go_wp2_with fail
                    go_at_call 69
                    refine (D3.out _ lo hi n _ hL K2.out.row K2.out.hi).mono ?_
                    rintro e v3k ⟨rfl, b3⟩
                    have K3 := Lib.hid (K2.out.grow b3)
                    have P3 := Lib.hid (P2.out.grow b3)
                    have k30 := K3.out.c0
                    have k31 := K3.out.c1
                    clear b3 K2 P2 k20 k21
                    cases o1 with
                    | true =>
                      have hno : remB (M : Int) L (s' : Int) (f' : Int) (d' : Int) (k : Int) = false := by rw [HV0.out]; simp
                      have HF := Lib.hid (firstN_no (i := k) (p := (remB (M : Int) L (s' : Int) (f' : Int) (d' : Int))) (hno))
                      clear hno
                      go_wp2_with fail
                      go_roundw
                      case rel => exact ⟨k + 1, by omega, by go_num, K3, by rw [HF.out]; exact P3⟩
                      case measure => simp [intOf]; omega
                    | false =>
                      go_wp2_with fail
                      go_at_call 69
                      refine (D4.out _ lo hi n _ hL K3.out.row K3.out.hi).mono ?_
                      rintro e v4k ⟨rfl, b4⟩
                      have K4 := Lib.hid (K3.out.grow b4)
                      have P4 := Lib.hid (P3.out.grow b4)
                      have k40 := K4.out.c0
                      have k41 := K4.out.c1
                      clear b4 K3 P3 k30 k31
                      cases o2 with
                      | true =>
                        have hno : remB (M : Int) L (s' : Int) (f' : Int) (d' : Int) (k : Int) = false := by rw [HV0.out]; simp
                        have HF := Lib.hid (firstN_no (i := k) (p := (remB (M : Int) L (s' : Int) (f' : Int) (d' : Int))) (hno))
                        clear hno
                        go_wp2_with fail
                        go_roundw
                        case rel => exact ⟨k + 1, by omega, by go_num, K4, by rw [HF.out]; exact P4⟩
                        case measure => simp [intOf]; omega
                      | false =>
                        have HF := Lib.hid (firstN_yes (i := k) (p := (remB (M : Int) L (s' : Int) (f' : Int) (d' : Int))) (by rw [HV0.out, y3.out, y4.out]; rfl))
                        obtain ⟨ra, rc, hra⟩ := own_slice P4.out.row
                        subst hra
                        have hsb := P4.out.below.size
                        clear HV0
                        go_wp2_with (at_builtin; refine wpList_append_lies _ rfl _ _ 33 rfl w0.heap.size 3 i3 (.int .i64 0) 1 8 Try.underlying33 I.out.1 I.out.2.1 I.out.2.2.1 I.out.2.2.2 rfl (by decide) _ (firstN k (remB (M : Int) L (s' : Int) (f' : Int) (d' : Int))).length (ints (firstN k (remB (M : Int) L (s' : Int) (f' : Int) (d' : Int)))) rfl (P4.out.row.alloc _) ⟨v4k.heap.size, 0, none⟩ 1 1 [.int .i64 (k : Int)] rfl rfl ?d0 (int_one _) (by decide) ?d1 ?d2 ?d3 _ rfl ?_)
                        case d0 => exact fun j u hj => cell_one_new v4k (.int .i64 (k : Int)) 3 rfl j u hj
                        case d1 => unfold maxLen; omega
                        case d2 => omega
                        case d3 => simp; omega
                        intro g4 cap4 w4 hown4 hgrow4 hat4 hlt4
                        have hO3 := P4.out.grow ((Below.refl _ _).alloc (Nat.le_refl _) (.cells #[.int .i64 (k : Int)] 3))
                        have hO4 := Lib.hid (hO3.app hgrow4 hown4)
                        have H4 : Hid (Gx w w4 (M : Int) ad n cp lo hi L) := by
                          refine (K4.out.grow ((Below.refl _ _).alloc (Nat.le_refl _) (.cells #[.int .i64 (k : Int)] 3))).grownBy hgrow4 (fun g hg => ?_)
                          have := (P4.out.row.lt g hg).1
                          rw [HW0.out] at this
                          omega
                        clear hown4 hgrow4 hat4 hlt4 hO3 P4 K4
                        go_wp2_with fail
                        go_roundw
                        case rel => exact ⟨k + 1, by omega, by go_num, H4, by rw [HF.out, List.length_append]; exact hO4⟩
                        case measure => simp [intOf]; omega
          · have hge : ¬ ((k : Int) < (M : Int)) := by omega
            obtain rfl : k = M := by omega
            have hlen := firstN_len k (remB (k : Int) L (s' : Int) (f' : Int) (d' : Int))
            have HV : Hid (remL (k : Int) L (s' : Int) (f' : Int) (d' : Int) = firstN k (remB (k : Int) L (s' : Int) (f' : Int) (d' : Int))) := by show remL _ _ _ _ _ = _; unfold remL; rw [if_pos ⟨HRP.out, HSD.out⟩, firstN_nodes]
            go_wp2_with fail
            go_ret
            exact ⟨_, rfl, by rw [HV.out]; exact (hO.out.toRow (by omega)).wide (by rw [HW0.out]; omega) (Nat.le_refl _), hR.out.below⟩
    · rw [Bool.not_eq_true] at hnr
      have HV : Hid (remL N L s f d = []) := by show remL _ _ _ _ _ = []; unfold remL repB; rw [hnr, Bool.and_false, if_neg (by simp)]
      rw [hnr]
      clear hnr
      go_wp2
      go_ret
      exact ⟨_, rfl, by rw [HV.out]; exact Row.empty _ _ _ _ _ _, H2.out.below⟩
  · rw [Bool.not_eq_true] at hg
    have HV : Hid (remL N L s f d = []) := by show remL _ _ _ _ _ = []; unfold remL repB; rw [hg, Bool.false_and, if_neg (by simp)]
    rw [hg]
    clear hg
    go_wp2
    go_ret
    exact ⟨_, rfl, by rw [HV.out]; exact Row.empty _ _ _ _ _ _, H1.out.below⟩

end Go.Proofs.Ytnpdbieadjgghaa
