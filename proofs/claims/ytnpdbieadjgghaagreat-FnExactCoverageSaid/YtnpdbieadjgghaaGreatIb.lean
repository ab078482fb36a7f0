/- BestAlternate of the program. -/
import Derived.Test.YtnpdbieadjgghaaGreatLm
import Derived.Test.YtnpdbieadjgghaaGreatReg
import Derived.Test.YtnpdbieadjgghaaGreatW1
import Derived.Test.YtnpdbieadjgghaaGreatRo
namespace Go.Proofs.YtnpdbieadjgghaaGreat
open Go.RowKit

set_option maxRecDepth 100000 in
set_option maxHeartbeats 4000000 in
theorem cmpr_any (X M s f d n m : Nat) (L : List Ed) (w : World) (h : Sv w X M L) (hs : s < M) (hd : d < M) (hn : n < M) (hm : m < M) :
    Calls Tryz.prog 78 #[rpV X s f d, .int .i64 (n : Int), .int .i64 (m : Int)] w fun e w' => e = .returned (.int .i64 (cmpI ((fun y => cst L (s : Int) y + dsT (M : Int) L y (d : Int)) (n : Int)) ((fun y => cst L (s : Int) y + dsT (M : Int) L y (d : Int)) (m : Int)))) ∧ Kx X M L w w' := by
  have hG := h.ok
  have hM := h.M
  have hX := h.lt
  have b1 : Below w.heap.size w (w.alloc (.cells #[.pointer (some ⟨X, 0, none⟩), .int .i64 (s : Int), .int .i64 (f : Int), .int .i64 (d : Int)] 61)) := (Below.refl _ _).alloc (Nat.le_refl _) _
  have K1 := Lib.hid (Kx.of h b1)
  have D1 := Lib.hid (fun w h => distance_any X M n d L w h hn hd)
  have D2 := Lib.hid (fun w h => distance_any X M m d L w h hm hd)
  have hne : w.heap.size ≠ X := by omega
  have hsz : (w.alloc (.cells #[.pointer (some ⟨X, 0, none⟩), .int .i64 (s : Int), .int .i64 (f : Int), .int .i64 (d : Int)] 61)).heap.size = w.heap.size + 1 := by simp
  have hsx : X < (w.alloc (.cells #[.pointer (some ⟨X, 0, none⟩), .int .i64 (s : Int), .int .i64 (f : Int), .int .i64 (d : Int)] 61)).heap.size := by omega
  have y0 : (w.alloc (.cells #[.pointer (some ⟨X, 0, none⟩), .int .i64 (s : Int), .int .i64 (f : Int), .int .i64 (d : Int)] 61)).drew.cell? ⟨w.heap.size, 0, none⟩ = some (.pointer (some ⟨X, 0, none⟩)) := by simp
  have y1 : (w.alloc (.cells #[.pointer (some ⟨X, 0, none⟩), .int .i64 (s : Int), .int .i64 (f : Int), .int .i64 (d : Int)] 61)).drew.cell? ⟨w.heap.size, 1, none⟩ = some (.int .i64 (s : Int)) := by simp
  have y3 : (w.alloc (.cells #[.pointer (some ⟨X, 0, none⟩), .int .i64 (s : Int), .int .i64 (f : Int), .int .i64 (d : Int)] 61)).drew.cell? ⟨w.heap.size, 3, none⟩ = some (.int .i64 (d : Int)) := by simp
  have y4 : (w.alloc (.cells #[.pointer (some ⟨X, 0, none⟩), .int .i64 (s : Int), .int .i64 (f : Int), .int .i64 (d : Int)] 61)).drew.cell? ⟨X, 2 + s * 10 + n, none⟩ = some (.int .i64 (cst L (s : Int) (n : Int))) := K1.out.sv.ct s n (by omega) (by omega)
  have y5 : (w.alloc (.cells #[.pointer (some ⟨X, 0, none⟩), .int .i64 (s : Int), .int .i64 (f : Int), .int .i64 (d : Int)] 61)).drew.cell? ⟨X, 2 + s * 10 + m, none⟩ = some (.int .i64 (cst L (s : Int) (m : Int))) := K1.out.sv.ct s m (by omega) (by omega)
  have g1 := dsT_in hG hn (d : Int)
  have g2 := dsT_in hG hm (d : Int)
  have g6 := cst_bound hG (s : Int) (n : Int)
  have g7 := cst_bound hG (s : Int) (m : Int)
  have hs10 : s < 10 := by omega
  have hn10 : n < 10 := by omega
  have hm10 : m < 10 := by omega
  have p0 : (0 : Int) ≤ (s : Int) := by omega
  have p1 : (s : Int) < 10 := by omega
  have p2 : (0 : Int) ≤ (n : Int) := by omega
  have p3 : (n : Int) < 10 := by omega
  have p4 : (0 : Int) ≤ (m : Int) := by omega
  have p5 : (m : Int) < 10 := by omega
  simp only []
  generalize dsT (M : Int) L (n : Int) (d : Int) = q1 at *
  generalize dsT (M : Int) L (m : Int) (d : Int) = q2 at *
  obtain ⟨c1, ec1⟩ : ∃ q, q = cst L (s : Int) (n : Int) := ⟨_, rfl⟩
  obtain ⟨c2, ec2⟩ : ∃ q, q = cst L (s : Int) (m : Int) := ⟨_, rfl⟩
  rw [← ec1] at y4 g6
  rw [← ec2] at y5 g7
  rw [← ec1, ← ec2]
  have u1 : IntKind.i64.wrap (c1 + q1) = c1 + q1 := by rw [IntKind.wrap_i64]; omega
  have u2 : IntKind.i64.wrap (c2 + q2) = c2 + q2 := by rw [IntKind.wrap_i64]; omega
  have E1 := Lib.hid ec1
  have E2 := Lib.hid ec2
  clear ec1 ec2 g1 g2 g6 g7 h hs hd hn hm hG hM b1
  unfold rpV
  go_enter Tryz.func78, Tryz.ntmps78
  go_wp2_with fail
  refine wp_region_held_drew (S := (fun w' => w'.cell? ⟨w.heap.size, 0, none⟩ = some (.pointer (some ⟨X, 0, none⟩)) ∧ w'.cell? ⟨w.heap.size, 1, none⟩ = some (.int .i64 (s : Int)) ∧ w'.cell? ⟨w.heap.size, 3, none⟩ = some (.int .i64 (d : Int)) ∧ w'.cell? ⟨X, 2 + s * 10 + n, none⟩ = some (.int .i64 c1) ∧ w'.cell? ⟨X, 2 + s * 10 + m, none⟩ = some (.int .i64 c2) ∧ Hid (Kx X M L (w.alloc (.cells #[.pointer (some ⟨X, 0, none⟩), .int .i64 (s : Int), .int .i64 (f : Int), .int .i64 (d : Int)] 61)) w'))) (by kernel_rfl) ?_ (fun hHeld => ?_)
  · exact ⟨y0, y1, y3, y4, y5, (Kx.of K1.out.sv ((Below.refl _ _).drew))⟩
  refine step_read 0 7 rfl rfl (by kernel_rfl) (by kernel_rfl) (by kernel_rfl) (fun _ _ _ h => h) (by rfl) (v := ?_) (fun w hSw => ?_) (by assumption) ?_; rotate_left; (focus ((try dsimp only at hSw); go_simp; first | done | exact rfl)); simp only [List.set]
  refine step_read 1 8 rfl rfl (by kernel_rfl) (by kernel_rfl) (by kernel_rfl) (fun _ _ _ h => h) (by rfl) (v := ?_) (fun w hSw => ?_) (by assumption) ?_; rotate_left; (focus ((try dsimp only at hSw); go_simp; first | done | exact rfl)); simp only [List.set]
  refine step_read 2 9 rfl rfl (by kernel_rfl) (by kernel_rfl) (by kernel_rfl) (fun _ _ _ h => h) (by rfl) (v := ?_) (fun w hSw => ?_) (by assumption) ?_; rotate_left; (focus ((try dsimp only at hSw); go_simp; first | done | exact rfl)); simp only [List.set]
  refine step_read 3 10 rfl rfl (by kernel_rfl) (by kernel_rfl) (by kernel_rfl) (fun _ _ _ h => h) (by rfl) (v := ?_) (fun w hSw => ?_) (by assumption) ?_; rotate_left; (focus ((try dsimp only at hSw); go_simp; first | done | exact rfl)); simp only [List.set]
  refine step_read 4 11 rfl rfl (by kernel_rfl) (by kernel_rfl) (by kernel_rfl) (fun _ _ _ h => h) (by rfl) (v := ?_) (fun w hSw => ?_) (by assumption) ?_; rotate_left; (focus ((try dsimp only at hSw); go_simp; first | done | exact rfl)); simp only [List.set]
  refine step_read 5 12 rfl rfl (by kernel_rfl) (by kernel_rfl) (by kernel_rfl) (fun _ _ _ h => h) (by rfl) (v := ?_) (fun w hSw => ?_) (by assumption) ?_; rotate_left; (focus ((try dsimp only at hSw); go_simp; first | done | exact rfl)); simp only [List.set]
  refine step_read 6 13 rfl rfl (by kernel_rfl) (by kernel_rfl) (by kernel_rfl) (fun _ _ _ h => h) (by rfl) (v := ?_) (fun w hSw => ?_) (by assumption) ?_; rotate_left; (focus ((try dsimp only at hSw); go_simp; first | done | exact rfl)); simp only [List.set]
  refine step_read 7 14 rfl rfl (by kernel_rfl) (by kernel_rfl) (by kernel_rfl) (fun _ _ _ h => h) (by rfl) (v := ?_) (fun w hSw => ?_) (by assumption) ?_; rotate_left; (focus ((try dsimp only at hSw); go_simp; first | done | exact rfl)); simp only [List.set]
  refine step_read 8 15 rfl rfl (by kernel_rfl) (by kernel_rfl) (by kernel_rfl) (fun _ _ _ h => h) (by rfl) (v := ?_) (fun w hSw => ?_) (by assumption) ?_; rotate_left; (focus ((try dsimp only at hSw); go_simp; first | done | exact rfl)); simp only [List.set]
  refine step_read 9 16 rfl rfl (by kernel_rfl) (by kernel_rfl) (by kernel_rfl) (fun _ _ _ h => h) (by rfl) (v := ?_) (fun w hSw => ?_) (by assumption) ?_; rotate_left; (focus ((try dsimp only at hSw); go_simp; first | done | exact rfl)); simp only [List.set]
  refine step_read 10 17 rfl rfl (by kernel_rfl) (by kernel_rfl) (by kernel_rfl) (fun _ _ _ h => h) (by rfl) (v := ?_) (fun w hSw => ?_) (by assumption) ?_; rotate_left; (focus ((try dsimp only at hSw); go_simp; first | done | exact rfl)); simp only [List.set]
  refine step_read 11 18 rfl rfl (by kernel_rfl) (by kernel_rfl) (by kernel_rfl) (fun _ _ _ h => h) (by rfl) (v := ?_) (fun w hSw => ?_) (by assumption) ?_; rotate_left; (focus ((try dsimp only at hSw); go_simp; first | done | exact rfl)); simp only [List.set]
  refine step_read 12 19 rfl rfl (by kernel_rfl) (by kernel_rfl) (by kernel_rfl) (fun _ _ _ h => h) (by rfl) (v := ?_) (fun w hSw => ?_) (by assumption) ?_; rotate_left; (focus ((try dsimp only at hSw); go_simp; first | done | exact rfl)); simp only [List.set]
  refine step_read 13 20 rfl rfl (by kernel_rfl) (by kernel_rfl) (by kernel_rfl) (fun _ _ _ h => h) (by rfl) (v := ?_) (fun w hSw => ?_) (by assumption) ?_; rotate_left; (focus ((try dsimp only at hSw); go_simp; first | done | exact rfl)); simp only [List.set]
  refine step_read 14 21 rfl rfl (by kernel_rfl) (by kernel_rfl) (by kernel_rfl) (fun _ _ _ h => h) (by rfl) (v := ?_) (fun w hSw => ?_) (by assumption) ?_; rotate_left; (focus ((try dsimp only at hSw); go_simp; first | done | exact rfl)); simp only [List.set]
  refine step_read 17 24 rfl rfl (by kernel_rfl) (by kernel_rfl) (by kernel_rfl) (fun _ _ _ h => h) (by rfl) (v := ?_) (fun w hSw => ?_) (by assumption) ?_; rotate_left; (focus ((try dsimp only at hSw); go_simp; first | done | exact rfl)); simp only [List.set]
  refine step_read 18 25 rfl rfl (by kernel_rfl) (by kernel_rfl) (by kernel_rfl) (fun _ _ _ h => h) (by rfl) (v := ?_) (fun w hSw => ?_) (by assumption) ?_; rotate_left; (focus ((try dsimp only at hSw); go_simp; first | done | exact rfl)); simp only [List.set]
  refine step_read 19 26 rfl rfl (by kernel_rfl) (by kernel_rfl) (by kernel_rfl) (fun _ _ _ h => h) (by rfl) (v := ?_) (fun w hSw => ?_) (by assumption) ?_; rotate_left; (focus ((try dsimp only at hSw); go_simp; first | done | exact rfl)); simp only [List.set]
  refine step_read 20 27 rfl rfl (by kernel_rfl) (by kernel_rfl) (by kernel_rfl) (fun _ _ _ h => h) (by rfl) (v := ?_) (fun w hSw => ?_) (by assumption) ?_; rotate_left; (focus ((try dsimp only at hSw); go_simp; first | done | exact rfl)); simp only [List.set]
  refine step_read 21 28 rfl rfl (by kernel_rfl) (by kernel_rfl) (by kernel_rfl) (fun _ _ _ h => h) (by rfl) (v := ?_) (fun w hSw => ?_) (by assumption) ?_; rotate_left; (focus ((try dsimp only at hSw); go_simp; first | done | exact rfl)); simp only [List.set]
  refine step_read 22 29 rfl rfl (by kernel_rfl) (by kernel_rfl) (by kernel_rfl) (fun _ _ _ h => h) (by rfl) (v := ?_) (fun w hSw => ?_) (by assumption) ?_; rotate_left; (focus ((try dsimp only at hSw); go_simp; first | done | exact rfl)); simp only [List.set]
  refine step_read 23 30 rfl rfl (by kernel_rfl) (by kernel_rfl) (by kernel_rfl) (fun _ _ _ h => h) (by rfl) (v := ?_) (fun w hSw => ?_) (by assumption) ?_; rotate_left; (focus ((try dsimp only at hSw); go_simp; first | done | exact rfl)); simp only [List.set]
  refine step_read 24 31 rfl rfl (by kernel_rfl) (by kernel_rfl) (by kernel_rfl) (fun _ _ _ h => h) (by rfl) (v := ?_) (fun w hSw => ?_) (by assumption) ?_; rotate_left; (focus ((try dsimp only at hSw); go_simp; first | done | exact rfl)); simp only [List.set]
  refine step_read 25 32 rfl rfl (by kernel_rfl) (by kernel_rfl) (by kernel_rfl) (fun _ _ _ h => h) (by rfl) (v := ?_) (fun w hSw => ?_) (by assumption) ?_; rotate_left; (focus ((try dsimp only at hSw); go_simp; first | done | exact rfl)); simp only [List.set]
  refine step_read 26 33 rfl rfl (by kernel_rfl) (by kernel_rfl) (by kernel_rfl) (fun _ _ _ h => h) (by rfl) (v := ?_) (fun w hSw => ?_) (by assumption) ?_; rotate_left; (focus ((try dsimp only at hSw); go_simp; first | done | exact rfl)); simp only [List.set]
  refine step_read 27 34 rfl rfl (by kernel_rfl) (by kernel_rfl) (by kernel_rfl) (fun _ _ _ h => h) (by rfl) (v := ?_) (fun w hSw => ?_) (by assumption) ?_; rotate_left; (focus ((try dsimp only at hSw); go_simp; first | done | exact rfl)); simp only [List.set]
  refine step_read 28 35 rfl rfl (by kernel_rfl) (by kernel_rfl) (by kernel_rfl) (fun _ _ _ h => h) (by rfl) (v := ?_) (fun w hSw => ?_) (by assumption) ?_; rotate_left; (focus ((try dsimp only at hSw); go_simp; first | done | exact rfl)); simp only [List.set]
  refine step_read 29 36 rfl rfl (by kernel_rfl) (by kernel_rfl) (by kernel_rfl) (fun _ _ _ h => h) (by rfl) (v := ?_) (fun w hSw => ?_) (by assumption) ?_; rotate_left; (focus ((try dsimp only at hSw); go_simp; first | done | exact rfl)); simp only [List.set]
  refine step_read 30 37 rfl rfl (by kernel_rfl) (by kernel_rfl) (by kernel_rfl) (fun _ _ _ h => h) (by rfl) (v := ?_) (fun w hSw => ?_) (by assumption) ?_; rotate_left; (focus ((try dsimp only at hSw); go_simp; first | done | exact rfl)); simp only [List.set]
  refine step_read 31 38 rfl rfl (by kernel_rfl) (by kernel_rfl) (by kernel_rfl) (fun _ _ _ h => h) (by rfl) (v := ?_) (fun w hSw => ?_) (by assumption) ?_; rotate_left; (focus ((try dsimp only at hSw); go_simp; first | done | exact rfl)); simp only [List.set]
  refine wpAnyH_ready (rs := [15]) (by kernel_rfl) (by simp) ?_
  refine AllReadyH.cons rfl (fun Kc hK => ?_) (AllReadyH.nil)
  go_simp
  go_at_call 83
  refine (D1.out _ hHeld.2.2.2.2.2.out.sv).mono ?_
  rintro e w22 ⟨rfl, kk22, -⟩
  have Kk22 := Lib.hid kk22
  have Hh22 := Lib.hid hHeld
  clear hHeld kk22
  refine hK.out _ _ ?_ (fun hHeld => ?_)
  · exact ⟨by rw [Kk22.out.but.cell (by have := Hh22.out.2.2.2.2.2.out.but.size; omega) hne]; exact Hh22.out.1, by rw [Kk22.out.but.cell (by have := Hh22.out.2.2.2.2.2.out.but.size; omega) hne]; exact Hh22.out.2.1, by rw [Kk22.out.but.cell (by have := Hh22.out.2.2.2.2.2.out.but.size; omega) hne]; exact Hh22.out.2.2.1, by rw [E1.out]; exact Kk22.out.sv.ct s n hs10 hn10, by rw [E2.out]; exact Kk22.out.sv.ct s m hs10 hm10, Hh22.out.2.2.2.2.2.out.trans hsx Kk22.out⟩
  clear hK Kc
  refine step_read 16 23 rfl rfl (by kernel_rfl) (by kernel_rfl) (by kernel_rfl) (fun _ _ _ h => h) (by rfl) (v := ?_) (fun w hSw => ?_) (by assumption) ?_; rotate_left; (focus ((try dsimp only at hSw); go_simp; first | done | exact rfl)); simp only [List.set]
  refine wpAnyH_ready (rs := [32]) (by kernel_rfl) (by simp) ?_
  refine AllReadyH.cons rfl (fun Kc hK => ?_) (AllReadyH.nil)
  go_simp
  go_at_call 83
  refine (D2.out _ hHeld.2.2.2.2.2.out.sv).mono ?_
  rintro e w39 ⟨rfl, kk39, -⟩
  have Kk39 := Lib.hid kk39
  have Hh39 := Lib.hid hHeld
  clear hHeld kk39
  refine hK.out _ _ ?_ (fun hHeld => ?_)
  · exact ⟨by rw [Kk39.out.but.cell (by have := Hh39.out.2.2.2.2.2.out.but.size; omega) hne]; exact Hh39.out.1, by rw [Kk39.out.but.cell (by have := Hh39.out.2.2.2.2.2.out.but.size; omega) hne]; exact Hh39.out.2.1, by rw [Kk39.out.but.cell (by have := Hh39.out.2.2.2.2.2.out.but.size; omega) hne]; exact Hh39.out.2.2.1, by rw [E1.out]; exact Kk39.out.sv.ct s n hs10 hn10, by rw [E2.out]; exact Kk39.out.sv.ct s m hs10 hm10, Hh39.out.2.2.2.2.2.out.trans hsx Kk39.out⟩
  clear hK Kc
  refine step_read 33 40 rfl rfl (by kernel_rfl) (by kernel_rfl) (by kernel_rfl) (fun _ _ _ h => h) (by rfl) (v := ?_) (fun w hSw => ?_) (by assumption) ?_; rotate_left; (focus ((try dsimp only at hSw); go_simp; first | done | exact rfl)); simp only [List.set]
  refine wpAnyH_ready (rs := [34]) (by kernel_rfl) (by simp) ?_
  refine AllReadyH.cons rfl (fun Kc hK => ?_) (AllReadyH.nil)
  go_simp
  go_at_call 99
  refine (cmp_any (c1 + q1) (c2 + q2) _).mono ?_
  rintro e w9 ⟨rfl, rfl⟩
  refine hK.out _ _ ?_ (fun hHeld => ?_)
  · exact hHeld
  clear hK Kc
  refine step_read 35 6 rfl rfl (by kernel_rfl) (by kernel_rfl) (by kernel_rfl) (fun _ _ _ h => h) (by rfl) (v := ?_) (fun w hSw => ?_) (by assumption) ?_; rotate_left; (focus ((try dsimp only at hSw); go_simp; first | done | exact rfl)); simp only [List.set]
  refine wpAnyH_done (by kernel_rfl) ?_ _
  have HE := hHeld.2.2.2.2.2
  clear hHeld
  go_wp2
  go_ret
  exact ⟨rfl, K1.out.trans hX HE.out⟩

theorem cmpI_neg (a b : Int) : decide (cmpI a b < 0) = decide (a < b) := by
  unfold cmpI
  refine decide_eq_decide.2 ?_
  split
  · constructor <;> intros <;> omega
  · split <;> constructor <;> intros <;> omega

set_option maxRecDepth 100000 in
set_option maxHeartbeats 4000000 in
theorem min_any (X M s f d lo hi m : Nat) (v : Value) (Z : List Int) (L : List Ed) (w : World) (h : Sv w X M L) (hMe : Meas X w) (hs : s < M) (hd : d < M) (hr : Row 1 w lo hi v m Z) (hh : hi ≤ w.heap.size) (hm0 : 0 < m) (hm : m ≤ 10) (hZ : ∀ z ∈ Z, 0 ≤ z ∧ z < (M : Int)) :
    Calls Tryz.prog 77 #[v, .func (.func 78) #[rpV X s f d] #[]] w fun e w' => e = .returned (.int .i64 (pickS (fun y => cst L (s : Int) y + dsT (M : Int) L y (d : Int)) Z (-1, 0)).1) ∧ Below w.heap.size w w' := by
  obtain ⟨g, c, rfl, hg1, hg2, hcell⟩ := row_cells hm0 hr
  have HZL : Hid (Z.length = m) := by have := hr.1; show _ = _; omega
  obtain ⟨z0, hz0⟩ : ∃ z, Z[0]? = some z := ⟨Z[0]'(by rw [HZL.out]; exact hm0), List.getElem?_eq_getElem _⟩
  have y0 : w.cell? ⟨g, 0, none⟩ = some (.int .i64 z0) := hcell 0 z0 hz0
  have HC := Lib.hid hcell
  have HZ := Lib.hid hZ
  have hX := h.lt
  have HS : Hid (Kx X M L w w) := Kx.refl h
  have HM := Lib.hid hMe
  have hn1 : ¬ ((m : Int) < 1) := by omega
  have hmp : (0 : Int) < (m : Int) := by omega
  have H0 : Hid (pickS (fun y => cst L (s : Int) y + dsT (M : Int) L y (d : Int)) (Z.take 1) (-1, 0) = (z0, (fun y => cst L (s : Int) y + dsT (M : Int) L y (d : Int)) z0)) := by
    show _ = _
    rw [show (1 : Nat) = 0 + 1 from rfl, List.take_add_one, hz0]
    rfl
  have HZ0 := Lib.hid (hZ z0 (List.mem_of_getElem? hz0))
  have HB : Hid (∀ b : Int × Int, b = pickS (fun y => cst L (s : Int) y + dsT (M : Int) L y (d : Int)) Z (-1, 0) → (pickS (fun y => cst L (s : Int) y + dsT (M : Int) L y (d : Int)) Z (-1, 0)).1 = b.1) := fun b hb => by rw [hb]
  clear hr hcell hz0 h hMe hZ
  obtain ⟨R, hR⟩ : ∃ R, R = (pickS (fun y => cst L (s : Int) y + dsT (M : Int) L y (d : Int)) Z (-1, 0)).1 := ⟨_, rfl⟩
  have HR := Lib.hid hR
  rw [← hR]
  clear hR
  go_enter Tryz.func77, Tryz.ntmps77
  go_wp2
  go_loopw [5, 6] (fun b i wr => ∃ (k : Nat) (bb : Int), 1 ≤ k ∧ k ≤ m ∧ i = .int .i64 (k : Int) ∧ b = .int .i64 bb ∧ Hid (0 ≤ bb ∧ bb < (M : Int)) ∧ Hid (Kx X M L w wr) ∧ Hid (pickS (fun y => cst L (s : Int) y + dsT (M : Int) L y (d : Int)) (Z.take k) (-1, 0) = (bb, (fun y => cst L (s : Int) y + dsT (M : Int) L y (d : Int)) bb))) (fun _ i _ => m - (intOf i).toNat)
  case atStart => exact ⟨1, z0, Nat.le_refl _, hm0, rfl, rfl, HZ0, HS, H0⟩
  case round =>
    clear y0 H0 HS HZ0
    obtain ⟨k, bb, hk1, hk, rfl, rfl, hbb, hK, HP⟩ := hrel
    by_cases hlt : k < m
    · obtain ⟨x, hxk⟩ : ∃ x, Z[k]? = some x := ⟨Z[k]'(by rw [HZL.out]; exact hlt), List.getElem?_eq_getElem _⟩
      have hb : Below w.heap.size w wr := hK.out.low HM.out
      have hgl : g < w.heap.size := by omega
      have y1 : wr.cell? ⟨g, k, none⟩ = some (.int .i64 x) := by rw [hb.cell (p := ⟨g, k, none⟩) hgl]; exact HC.out k x hxk
      have q0 : (0 : Int) ≤ (k : Int) := by omega
      have q1 : (k : Int) < (m : Int) := by omega
      have HT : Hid (Z.take (k + 1) = Z.take k ++ [x]) := by show _ = _; rw [List.take_add_one, hxk]; rfl
      have hx := HZ.out x (List.mem_of_getElem? hxk)
      have hbx := hbb.out
      obtain ⟨x', rfl⟩ : ∃ q : Nat, x = (q : Int) := ⟨x.toNat, by omega⟩
      obtain ⟨b', rfl⟩ : ∃ q : Nat, bb = (q : Int) := ⟨bb.toNat, by omega⟩
      have HQ := Lib.hid (fun w h => cmpr_any X M s f d x' b' L w h hs hd (by omega) (by omega))
      have HX := Lib.hid hx
      have hcn := cmpI_neg ((fun y => cst L (s : Int) y + dsT (M : Int) L y (d : Int)) (x' : Int)) ((fun y => cst L (s : Int) y + dsT (M : Int) L y (d : Int)) (b' : Int))
      have HN : Hid (∀ t : Bool, decide ((fun y => cst L (s : Int) y + dsT (M : Int) L y (d : Int)) (x' : Int) < (fun y => cst L (s : Int) y + dsT (M : Int) L y (d : Int)) (b' : Int)) = t → pickS (fun y => cst L (s : Int) y + dsT (M : Int) L y (d : Int)) (Z.take (k + 1)) (-1, 0) = (if t = true then ((x' : Int), (fun y => cst L (s : Int) y + dsT (M : Int) L y (d : Int)) (x' : Int)) else ((b' : Int), (fun y => cst L (s : Int) y + dsT (M : Int) L y (d : Int)) (b' : Int)))) := fun t ht => by
        rw [HT.out, pickS_snoc, HP.out]
        cases t with
        | true => rw [if_pos (.inr (of_decide_eq_true ht)), if_pos rfl]
        | false => rw [if_neg (fun h => h.elim (fun h => by have h' : (b' : Int) < 0 := h; omega) (fun h => of_decide_eq_false ht h)), if_neg (by decide)]
      generalize hcv : cmpI ((fun y => cst L (s : Int) y + dsT (M : Int) L y (d : Int)) (x' : Int)) ((fun y => cst L (s : Int) y + dsT (M : Int) L y (d : Int)) (b' : Int)) = cv at *
      rw [← hcn] at HN
      clear hb hxk hx hbx hcn hcv
      go_wp2_with fail
      go_at_call 78
      refine (HQ.out _ hK.out.sv).mono ?_
      rintro e w2 ⟨rfl, k2⟩
      have K2 := Lib.hid (hK.out.trans hX k2)
      have y2 : w2.cell? ⟨g, k, none⟩ = some (.int .i64 (x' : Int)) := by rw [(K2.out.low HM.out).cell (p := ⟨g, k, none⟩) hgl]; rw [(hK.out.low HM.out).cell (p := ⟨g, k, none⟩) hgl] at y1; exact y1
      clear k2 hK HQ y1
      by_cases a1 : cv < 0
      · have z1 : decide (cv < 0) = true := decide_eq_true a1
        have HNt := Lib.hid (HN.out true z1)
        clear a1 HN
        go_wp2_with fail
        go_roundw
        case rel => exact ⟨k + 1, (x' : Int), by omega, by omega, by go_num, rfl, HX, K2, by rw [HNt.out]; exact if_pos trivial⟩
        case measure => simp [intOf]; omega
      · have z1 : decide (cv < 0) = false := decide_eq_false a1
        have HNt := Lib.hid (HN.out false z1)
        clear a1 HN
        go_wp2_with fail
        go_roundw
        case rel => exact ⟨k + 1, (b' : Int), by omega, by omega, by go_num, rfl, hbb, K2, by rw [HNt.out, if_neg (by decide)]; exact rfl⟩
        case measure => simp [intOf]; omega
    · have hge : ¬ ((k : Int) < (m : Int)) := by omega
      obtain rfl : k = m := by omega
      have HV : Hid (R = bb) := by
        show _ = _
        have e : Z.take k = Z := List.take_of_length_le (by rw [HZL.out]; exact Nat.le_refl _)
        have h := HP.out
        rw [e] at h
        rw [HR.out, h]
      have HE := Lib.hid (hK.out.low HM.out)
      go_wp2_with fail
      go_ret
      exact ⟨by rw [HV.out]; rfl, HE.out⟩

theorem bst_eq (M : Nat) (L : List Ed) (s f d : Nat) (h : repB (M : Int) L (s : Int) (f : Int) (d : Int) = true) : bstL (M : Int) L (s : Int) (f : Int) (d : Int) = (pickS (fun y => cst L (s : Int) y + dsT (M : Int) L y (d : Int)) (firstN M (altB (M : Int) L (s : Int) (f : Int) (d : Int))) (-1, 0)).1 := by
  unfold bstL altL
  rw [if_pos h, firstN_nodes]

set_option maxRecDepth 100000 in
set_option maxHeartbeats 4000000 in
theorem best_any (X M s f d : Nat) (L : List Ed) (w : World) (h : Sv w X M L) (hs : s < M) (hd : d < M) :
    Calls Tryz.prog 47 #[rpV X s f d] w fun e w' => e = .returned (.int .i64 (pickS (fun y => cst L (s : Int) y + dsT (M : Int) L y (d : Int)) (firstN M (altB (M : Int) L (s : Int) (f : Int) (d : Int))) (-1, 0)).1) ∧ Kx X M L w w' := by
  have hM := h.M
  have hX := h.lt
  have b1 : Below w.heap.size w (w.alloc (.cells #[.pointer (some ⟨X, 0, none⟩), .int .i64 (s : Int), .int .i64 (f : Int), .int .i64 (d : Int)] 61)) := (Below.refl _ _).alloc (Nat.le_refl _) _
  have K1 := Lib.hid (Kx.of h b1)
  have HN := Lib.hid (nodes_61 (rpV X s f d) X M L _ _ (h.grow b1) (alternate_any X M s f d L hs hd))
  have hne : w.heap.size ≠ X := by omega
  have hsz : (w.alloc (.cells #[.pointer (some ⟨X, 0, none⟩), .int .i64 (s : Int), .int .i64 (f : Int), .int .i64 (d : Int)] 61)).heap.size = w.heap.size + 1 := by simp
  have hlen := firstN_len M (altB (M : Int) L (s : Int) (f : Int) (d : Int))
  have HMEM : Hid (∀ z ∈ firstN M (altB (M : Int) L (s : Int) (f : Int) (d : Int)), 0 ≤ z ∧ z < (M : Int)) := fun z hz => by have := firstN_mem hz; omega
  have HMN : Hid (∀ (lo hi m : Nat) (v : Value) (w : World), Sv w X M L → Meas X w → Row 1 w lo hi v m (firstN M (altB (M : Int) L (s : Int) (f : Int) (d : Int))) → hi ≤ w.heap.size → 0 < m → m ≤ 10 → Calls Tryz.prog 77 #[v, .func (.func 78) #[rpV X s f d] #[]] w fun e w' => e = .returned (.int .i64 (pickS (fun y => cst L (s : Int) y + dsT (M : Int) L y (d : Int)) (firstN M (altB (M : Int) L (s : Int) (f : Int) (d : Int))) (-1, 0)).1) ∧ Below w.heap.size w w') := fun lo hi m v w h1 h2 h3 h4 h5 h6 => min_any X M s f d lo hi m v _ L w h1 h2 hs hd h3 h4 h5 h6 HMEM.out
  have HBX : Hid (∀ v : World, Kx X M L (w.alloc (.cells #[.pointer (some ⟨X, 0, none⟩), .int .i64 (s : Int), .int .i64 (f : Int), .int .i64 (d : Int)] 61)) v → v.cell? ⟨w.heap.size, 0, none⟩ = some (.pointer (some ⟨X, 0, none⟩)) ∧ v.cell? ⟨w.heap.size, 1, none⟩ = some (.int .i64 (s : Int)) ∧ v.cell? ⟨w.heap.size, 2, none⟩ = some (.int .i64 (f : Int)) ∧ v.cell? ⟨w.heap.size, 3, none⟩ = some (.int .i64 (d : Int))) := fun v hv => by
    refine ⟨?_, ?_, ?_, ?_⟩ <;> (rw [hv.but.cell (by simp) hne]; simp)
  have hsx : X < (w.alloc (.cells #[.pointer (some ⟨X, 0, none⟩), .int .i64 (s : Int), .int .i64 (f : Int), .int .i64 (d : Int)] 61)).heap.size := by omega
  have HE0 : Hid (firstN M (altB (M : Int) L (s : Int) (f : Int) (d : Int)) = [] → (pickS (fun y => cst L (s : Int) y + dsT (M : Int) L y (d : Int)) (firstN M (altB (M : Int) L (s : Int) (f : Int) (d : Int))) (-1, 0)).1 = -1) := fun h => by rw [h]; rfl
  generalize firstN M (altB (M : Int) L (s : Int) (f : Int) (d : Int)) = Z at *
  generalize (pickS (fun y => cst L (s : Int) y + dsT (M : Int) L y (d : Int)) Z (-1, 0)).1 = R at *
  clear h b1 hsz hs hd HMEM
  unfold rpV at HN HMN ⊢
  go_enter Tryz.func47, Tryz.ntmps47
  go_wp2_with fail
  go_at_call 43
  refine HN.out.mono ?_
  rintro e w2 ⟨rv, rfl, hrow, k2, m2⟩
  obtain ⟨y0, y1, y2, y3⟩ := HBX.out w2 k2
  have K2 := Lib.hid k2
  obtain ⟨az, cz, rfl⟩ := hrow.slice
  have HRW := Lib.hid hrow
  have HM2 := Lib.hid m2
  clear hrow k2 m2 HN HBX
  obtain ⟨m, hm⟩ : ∃ m, m = Z.length := ⟨_, rfl⟩
  rw [← hm] at hlen HRW ⊢
  have HZL := Lib.hid hm
  clear hm
  by_cases hz : m = 0
  · have HZ : Hid (Z = []) := List.eq_nil_of_length_eq_zero (by rw [← HZL.out]; exact hz)
    have HR := Lib.hid (HE0.out HZ.out)
    subst hz
    go_wp2
    go_ret
    exact ⟨by rw [HR.out]; rfl, K1.out.trans hX K2.out⟩
  · have q1 : ((m : Int) == 0) = false := beq_eq_false_iff_ne.2 (by omega)
    have HME := Lib.hid (HM2.out (fun h => hz (by rw [HZL.out, h]; rfl)))
    have hmp : 0 < m := by omega
    clear hz HM2
    go_wp2_with fail
    go_at_call 77
    refine (HMN.out _ _ m _ _ K2.out.sv HME.out HRW.out (Nat.le_refl _) hmp (by omega)).mono ?_
    rintro e w3 ⟨rfl, b3⟩
    have K3 := Lib.hid (K2.out.trans hsx (Kx.of K2.out.sv b3))
    clear b3
    go_wp2
    go_ret
    exact ⟨rfl, K1.out.trans hX K3.out⟩

set_option maxRecDepth 100000 in
set_option maxHeartbeats 4000000 in
theorem ibest_any (N : Int) (lo hi n : Nat) (v : Value) (L : List Ed) (s f d : Int) (w : World) (hL : L.length = n) (hr : Row 3 w lo hi v n (flat L)) (hh : hi ≤ w.heap.size) :
    Calls Tryz.prog 18 #[.agg #[.int .i64 N, v], .int .i64 s, .int .i64 f, .int .i64 d] w fun e w' => e = .returned (.int .i64 (bstL N L s f d)) ∧ Below w.heap.size w w' := by
  have HR := Lib.hid hr
  obtain ⟨ad, cp, rfl⟩ := hr.slice
  clear hr
  have b0 : Below w.heap.size w (w.alloc (.cells #[.int .i64 N, .slice ad n cp] 30)) := (Below.refl _ _).alloc (Nat.le_refl _) _
  have HB0 := Lib.hid b0
  have HR0 := Lib.hid (HR.out.below b0 hh)
  clear b0
  go_enter Tryz.func18, Tryz.ntmps18
  go_wp2_with fail
  go_at_call 42
  refine (repair_any N lo hi n _ L s f d _ hL HR0.out (by simp; omega)).mono ?_
  rintro e w1 ⟨b1, hcase⟩
  have HB1 : Hid (Below w.heap.size w w1) := HB0.out.trans (b1.mono (by simp))
  clear b1
  rcases hcase with ⟨hg, rfl⟩ | ⟨hg, X, M, s', f', d', rfl, rfl, rfl, rfl, hsM, hfM, hdM, rfl, hX, hS⟩
  · have HV : Hid (bstL N L s f d = -1) := by show bstL _ _ _ _ _ = -1; unfold bstL altL; rw [hg, if_neg (by decide)]; rfl
    clear hg
    go_wp2
    go_ret
    exact ⟨by rw [HV.out]; rfl, HB1.out.trans (Below.alloc (Below.refl _ _) HB1.out.size _)⟩
  · have HV := Lib.hid (bst_eq M L s' f' d' hg)
    simp only [World.size_alloc] at hX
    have hbx : Below w1.heap.size w1 (w1.alloc (.cells #[.pointer (some ⟨X, 0, none⟩), .int .i64 (s' : Int), .int .i64 (f' : Int), .int .i64 (d' : Int)] 61)) := (Below.refl _ _).alloc (Nat.le_refl _) _
    have HN := Lib.hid (best_any X M s' f' d' L _ (hS.grow hbx) hsM hdM)
    have HBX := Lib.hid (HB1.out.trans (hbx.mono HB1.out.size))
    clear hg hS hbx
    unfold rpV at HN ⊢
    go_wp2_with fail
    go_at_call 47
    refine HN.out.mono ?_
    rintro e w2 ⟨rfl, hk⟩
    have HE := Lib.hid (HBX.out.trans (hk.but.below (by omega) HBX.out.size))
    clear hk HN
    go_wp2
    go_ret
    exact ⟨by rw [HV.out]; rfl, HE.out⟩

end Go.Proofs.YtnpdbieadjgghaaGreat
