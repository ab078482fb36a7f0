/- Remote nodes, one by one, by the program. -/
import Derived.Test.YtnpdbieadjgghaaAl
namespace Go.Proofs.Ytnpdbieadjgghaa
open Go.RowKit

theorem sum_le {a b c : Int} (h1 : 0 ≤ a ∧ a ≤ 1000000) (h2 : 1 ≤ b ∧ b ≤ 1000000) (h3 : 0 ≤ c ∧ c ≤ 1000000) : wrap64 (a + b) = a + b ∧ wrap64 (a + b + c) = a + b + c := by unfold wrap64; omega

theorem sp_drew {X M B s f : Nat} {L : List Ed} {c1 c2 : Int} {w v : World} (h : v.cell? ⟨B, 0, none⟩ = some (.pointer (some ⟨X, 0, none⟩)) ∧ v.cell? ⟨B, 1, none⟩ = some (.int .i64 (s : Int)) ∧ v.cell? ⟨B, 2, none⟩ = some (.int .i64 (f : Int)) ∧ v.cell? ⟨X, 2 + s * 10 + f, none⟩ = some (.int .i64 c1) ∧ v.cell? ⟨X, 2 + f * 10 + s, none⟩ = some (.int .i64 c2) ∧ Hid (Kx X M L w v)) : v.drew.cell? ⟨B, 0, none⟩ = some (.pointer (some ⟨X, 0, none⟩)) ∧ v.drew.cell? ⟨B, 1, none⟩ = some (.int .i64 (s : Int)) ∧ v.drew.cell? ⟨B, 2, none⟩ = some (.int .i64 (f : Int)) ∧ v.drew.cell? ⟨X, 2 + s * 10 + f, none⟩ = some (.int .i64 c1) ∧ v.drew.cell? ⟨X, 2 + f * 10 + s, none⟩ = some (.int .i64 c2) ∧ Hid (Kx X M L w v.drew) :=
  ⟨h.1, h.2.1, h.2.2.1, h.2.2.2.1, h.2.2.2.2.1, ⟨h.2.2.2.2.2.out.but.drew, h.2.2.2.2.2.out.sv.grow (Below.refl _ _).drew, fun m => (h.2.2.2.2.2.out.low m).drew⟩⟩
theorem sp_keep {X M B s f : Nat} {L : List Ed} {c1 c2 : Int} {w v v2 : World} (hX : X < w.heap.size) (hB : B < w.heap.size) (hne : X ≠ B) (hs : s < 10) (hf : f < 10) (e1 : c1 = cst L (s : Int) (f : Int)) (e2 : c2 = cst L (f : Int) (s : Int)) (h : v.cell? ⟨B, 0, none⟩ = some (.pointer (some ⟨X, 0, none⟩)) ∧ v.cell? ⟨B, 1, none⟩ = some (.int .i64 (s : Int)) ∧ v.cell? ⟨B, 2, none⟩ = some (.int .i64 (f : Int)) ∧ v.cell? ⟨X, 2 + s * 10 + f, none⟩ = some (.int .i64 c1) ∧ v.cell? ⟨X, 2 + f * 10 + s, none⟩ = some (.int .i64 c2) ∧ Hid (Kx X M L w v)) (k : Kx X M L v v2) : v2.cell? ⟨B, 0, none⟩ = some (.pointer (some ⟨X, 0, none⟩)) ∧ v2.cell? ⟨B, 1, none⟩ = some (.int .i64 (s : Int)) ∧ v2.cell? ⟨B, 2, none⟩ = some (.int .i64 (f : Int)) ∧ v2.cell? ⟨X, 2 + s * 10 + f, none⟩ = some (.int .i64 c1) ∧ v2.cell? ⟨X, 2 + f * 10 + s, none⟩ = some (.int .i64 c2) ∧ Hid (Kx X M L w v2) := by
  obtain ⟨h0, h1, h2, h3, h4, h5⟩ := h
  have hs0 := h5.out.but.size
  refine ⟨?_, ?_, ?_, ?_, ?_, h5.out.trans hX k⟩
  · rw [k.but.cell (by omega) (fun e => hne e.symm)]; exact h0
  · rw [k.but.cell (by omega) (fun e => hne e.symm)]; exact h1
  · rw [k.but.cell (by omega) (fun e => hne e.symm)]; exact h2
  · rw [e1]; exact k.sv.ct s f hs hf
  · rw [e2]; exact k.sv.ct f s hf hs
theorem sp_sv {X M B s f : Nat} {L : List Ed} {c1 c2 : Int} {w v : World} (h : v.cell? ⟨B, 0, none⟩ = some (.pointer (some ⟨X, 0, none⟩)) ∧ v.cell? ⟨B, 1, none⟩ = some (.int .i64 (s : Int)) ∧ v.cell? ⟨B, 2, none⟩ = some (.int .i64 (f : Int)) ∧ v.cell? ⟨X, 2 + s * 10 + f, none⟩ = some (.int .i64 c1) ∧ v.cell? ⟨X, 2 + f * 10 + s, none⟩ = some (.int .i64 c2) ∧ Hid (Kx X M L w v)) : Kx X M L w v := h.2.2.2.2.2.out

set_option maxRecDepth 100000 in
set_option maxHeartbeats 4000000 in
theorem spares_any (X M s f d x y : Nat) (L : List Ed) (w : World) (h : Sv w X M L) (hs : s < M) (hf : f < M) (hx : x < M) (hy : y < M) :
    Calls Try.prog 101 #[rpV X s f d, .int .i64 (x : Int), .int .i64 (y : Int)] w fun e w' => e = .returned (.bool (sprB (M : Int) L (s : Int) (f : Int) (x : Int) (y : Int))) ∧ Kx X M L w w' ∧ Meas X w' := by
  have hG := h.ok
  have hM := h.M
  have hX := h.lt
  have b1 : Below w.heap.size w (w.alloc (.cells #[.pointer (some ⟨X, 0, none⟩), .int .i64 (s : Int), .int .i64 (f : Int), .int .i64 (d : Int)] 69)) := (Below.refl _ _).alloc (Nat.le_refl _) _
  have K1 := Lib.hid (Kx.of h b1)
  have D1 := Lib.hid (fun w h => distance_any X M x y L w h hx hy)
  have D2 := Lib.hid (fun w h => distance_any X M x s L w h hx hs)
  have D3 := Lib.hid (fun w h => distance_any X M f y L w h hf hy)
  have D4 := Lib.hid (fun w h => distance_any X M x f L w h hx hf)
  have D5 := Lib.hid (fun w h => distance_any X M s y L w h hs hy)
  have hD0 : X ≠ w.heap.size := by omega
  have HB : Hid (∀ v : World, Kx X M L (w.alloc (.cells #[.pointer (some ⟨X, 0, none⟩), .int .i64 (s : Int), .int .i64 (f : Int), .int .i64 (d : Int)] 69)) v → v.cell? ⟨w.heap.size, 0, none⟩ = some (.pointer (some ⟨X, 0, none⟩)) ∧ v.cell? ⟨w.heap.size, 1, none⟩ = some (.int .i64 (s : Int)) ∧ v.cell? ⟨w.heap.size, 2, none⟩ = some (.int .i64 (f : Int)) ∧ v.cell? ⟨X, 2 + s * 10 + f, none⟩ = some (.int .i64 (cst L (s : Int) (f : Int))) ∧ v.cell? ⟨X, 2 + f * 10 + s, none⟩ = some (.int .i64 (cst L (f : Int) (s : Int)))) := fun v hv => by
    refine ⟨?_, ?_, ?_, hv.sv.ct s f (by omega) (by omega), hv.sv.ct f s (by omega) (by omega)⟩
    · rw [hv.but.cell (by simp) (fun e => hD0 e.symm)]; simp
    · rw [hv.but.cell (by simp) (fun e => hD0 e.symm)]; simp
    · rw [hv.but.cell (by simp) (fun e => hD0 e.symm)]; simp
  have hsx : X < (w.alloc (.cells #[.pointer (some ⟨X, 0, none⟩), .int .i64 (s : Int), .int .i64 (f : Int), .int .i64 (d : Int)] 69)).heap.size := by simp; omega
  have g1 := dsT_in hG hx (y : Int)
  have g2 := dsT_in hG hx (s : Int)
  have g3 := dsT_in hG hf (y : Int)
  have g4 := dsT_in hG hx (f : Int)
  have g5 := dsT_in hG hs (y : Int)
  have g6 := cst_bound hG (s : Int) (f : Int)
  have g7 := cst_bound hG (f : Int) (s : Int)
  obtain ⟨u2, u3⟩ := sum_le g2 g6 g3
  obtain ⟨u4, u5⟩ := sum_le g4 g7 g5
  have K1' : Hid (Kx X M L (w.alloc (.cells #[.pointer (some ⟨X, 0, none⟩), .int .i64 (s : Int), .int .i64 (f : Int), .int .i64 (d : Int)] 69)) (w.alloc (.cells #[.pointer (some ⟨X, 0, none⟩), .int .i64 (s : Int), .int .i64 (f : Int), .int .i64 (d : Int)] 69))) := Kx.refl K1.out.sv
  unfold sprB
  rw [far_val]
  have p0 : (0 : Int) ≤ (s : Int) := by omega
  have p1 : (s : Int) < 10 := by omega
  have p2 : (0 : Int) ≤ (f : Int) := by omega
  have p3 : (f : Int) < 10 := by omega
  generalize dsT (M : Int) L (x : Int) (y : Int) = q1 at *
  generalize dsT (M : Int) L (x : Int) (s : Int) = q2 at *
  generalize dsT (M : Int) L (f : Int) (y : Int) = q3 at *
  generalize dsT (M : Int) L (x : Int) (f : Int) = q4 at *
  generalize dsT (M : Int) L (s : Int) (y : Int) = q5 at *
  obtain ⟨c1, ec1⟩ : ∃ q, q = cst L (s : Int) (f : Int) := ⟨_, rfl⟩
  obtain ⟨c2, ec2⟩ : ∃ q, q = cst L (f : Int) (s : Int) := ⟨_, rfl⟩
  rw [← ec1, ← ec2] at HB
  rw [← ec1] at g6 u2 u3
  rw [← ec2] at g7 u4 u5
  rw [← ec1, ← ec2]
  have E1 := Lib.hid ec1
  have E2 := Lib.hid ec2
  have hs10 : s < 10 := by omega
  have hf10 : f < 10 := by omega
  clear ec1 ec2
  clear h hs hf hx hy hG hM b1 g1 g2 g3 g4 g5 g6 g7
  unfold rpV
  go_enter Try.func101, Try.ntmps101
  go_wp2_with fail
  go_at_call 99
  refine (D1.out _ K1.out.sv).mono ?_
  rintro e w1 ⟨rfl, k2, m2⟩
  obtain ⟨y0, y1, y2, y3, y4⟩ := HB.out w1 k2
  have K2 := Lib.hid k2
  have M2 := Lib.hid m2
  clear k2 m2
  go_wp2_with fail
  have hw1 : w.heap.size < w1.heap.size := by have := K2.out.but.size; simp at this; omega
  have hX1 : X < w1.heap.size := by omega
  have S0 : w1.cell? ⟨w.heap.size, 0, none⟩ = some (.pointer (some ⟨X, 0, none⟩)) ∧ w1.cell? ⟨w.heap.size, 1, none⟩ = some (.int .i64 (s : Int)) ∧ w1.cell? ⟨w.heap.size, 2, none⟩ = some (.int .i64 (f : Int)) ∧ w1.cell? ⟨X, 2 + s * 10 + f, none⟩ = some (.int .i64 c1) ∧ w1.cell? ⟨X, 2 + f * 10 + s, none⟩ = some (.int .i64 c2) ∧ Hid (Kx X M L w1 w1) := ⟨y0, y1, y2, y3, y4, Kx.refl K2.out.sv⟩
  clear y0 y1 y2 y3 y4 HB D1
  refine wp_region_held_drew (S := (fun w' => w'.cell? ⟨w.heap.size, 0, none⟩ = some (.pointer (some ⟨X, 0, none⟩)) ∧ w'.cell? ⟨w.heap.size, 1, none⟩ = some (.int .i64 (s : Int)) ∧ w'.cell? ⟨w.heap.size, 2, none⟩ = some (.int .i64 (f : Int)) ∧ w'.cell? ⟨X, 2 + s * 10 + f, none⟩ = some (.int .i64 c1) ∧ w'.cell? ⟨X, 2 + f * 10 + s, none⟩ = some (.int .i64 c2) ∧ Hid (Kx X M L w1 w'))) (by kernel_rfl) ?_ (fun hHeld => ?_)
  · exact sp_drew S0
  refine step_read 0 15 rfl rfl (by kernel_rfl) (by kernel_rfl) (by kernel_rfl) (fun _ _ _ h => h) (by rfl) (v := ?_) (fun w hSw => ?_) (by assumption) ?_; rotate_left; (focus ((try dsimp only at hSw); go_simp; first | done | exact rfl)); simp only [List.set]
  refine step_read 1 16 rfl rfl (by kernel_rfl) (by kernel_rfl) (by kernel_rfl) (fun _ _ _ h => h) (by rfl) (v := ?_) (fun w hSw => ?_) (by assumption) ?_; rotate_left; (focus ((try dsimp only at hSw); go_simp; first | done | exact rfl)); simp only [List.set]
  refine step_read 2 17 rfl rfl (by kernel_rfl) (by kernel_rfl) (by kernel_rfl) (fun _ _ _ h => h) (by rfl) (v := ?_) (fun w hSw => ?_) (by assumption) ?_; rotate_left; (focus ((try dsimp only at hSw); go_simp; first | done | exact rfl)); simp only [List.set]
  refine step_read 3 18 rfl rfl (by kernel_rfl) (by kernel_rfl) (by kernel_rfl) (fun _ _ _ h => h) (by rfl) (v := ?_) (fun w hSw => ?_) (by assumption) ?_; rotate_left; (focus ((try dsimp only at hSw); go_simp; first | done | exact rfl)); simp only [List.set]
  refine step_read 4 19 rfl rfl (by kernel_rfl) (by kernel_rfl) (by kernel_rfl) (fun _ _ _ h => h) (by rfl) (v := ?_) (fun w hSw => ?_) (by assumption) ?_; rotate_left; (focus ((try dsimp only at hSw); go_simp; first | done | exact rfl)); simp only [List.set]
  refine step_read 6 21 rfl rfl (by kernel_rfl) (by kernel_rfl) (by kernel_rfl) (fun _ _ _ h => h) (by rfl) (v := ?_) (fun w hSw => ?_) (by assumption) ?_; rotate_left; (focus ((try dsimp only at hSw); go_simp; first | done | exact rfl)); simp only [List.set]
  refine step_read 7 22 rfl rfl (by kernel_rfl) (by kernel_rfl) (by kernel_rfl) (fun _ _ _ h => h) (by rfl) (v := ?_) (fun w hSw => ?_) (by assumption) ?_; rotate_left; (focus ((try dsimp only at hSw); go_simp; first | done | exact rfl)); simp only [List.set]
  refine step_read 8 23 rfl rfl (by kernel_rfl) (by kernel_rfl) (by kernel_rfl) (fun _ _ _ h => h) (by rfl) (v := ?_) (fun w hSw => ?_) (by assumption) ?_; rotate_left; (focus ((try dsimp only at hSw); go_simp; first | done | exact rfl)); simp only [List.set]
  refine step_read 9 24 rfl rfl (by kernel_rfl) (by kernel_rfl) (by kernel_rfl) (fun _ _ _ h => h) (by rfl) (v := ?_) (fun w hSw => ?_) (by assumption) ?_; rotate_left; (focus ((try dsimp only at hSw); go_simp; first | done | exact rfl)); simp only [List.set]
  refine step_read 10 25 rfl rfl (by kernel_rfl) (by kernel_rfl) (by kernel_rfl) (fun _ _ _ h => h) (by rfl) (v := ?_) (fun w hSw => ?_) (by assumption) ?_; rotate_left; (focus ((try dsimp only at hSw); go_simp; first | done | exact rfl)); simp only [List.set]
  refine step_read 11 26 rfl rfl (by kernel_rfl) (by kernel_rfl) (by kernel_rfl) (fun _ _ _ h => h) (by rfl) (v := ?_) (fun w hSw => ?_) (by assumption) ?_; rotate_left; (focus ((try dsimp only at hSw); go_simp; first | done | exact rfl)); simp only [List.set]
  refine step_read 12 27 rfl rfl (by kernel_rfl) (by kernel_rfl) (by kernel_rfl) (fun _ _ _ h => h) (by rfl) (v := ?_) (fun w hSw => ?_) (by assumption) ?_; rotate_left; (focus ((try dsimp only at hSw); go_simp; first | done | exact rfl)); simp only [List.set]
  refine step_read 13 28 rfl rfl (by kernel_rfl) (by kernel_rfl) (by kernel_rfl) (fun _ _ _ h => h) (by rfl) (v := ?_) (fun w hSw => ?_) (by assumption) ?_; rotate_left; (focus ((try dsimp only at hSw); go_simp; first | done | exact rfl)); simp only [List.set]
  refine step_read 14 29 rfl rfl (by kernel_rfl) (by kernel_rfl) (by kernel_rfl) (fun _ _ _ h => h) (by rfl) (v := ?_) (fun w hSw => ?_) (by assumption) ?_; rotate_left; (focus ((try dsimp only at hSw); go_simp; first | done | exact rfl)); simp only [List.set]
  refine step_read 15 30 rfl rfl (by kernel_rfl) (by kernel_rfl) (by kernel_rfl) (fun _ _ _ h => h) (by rfl) (v := ?_) (fun w hSw => ?_) (by assumption) ?_; rotate_left; (focus ((try dsimp only at hSw); go_simp; first | done | exact rfl)); simp only [List.set]
  refine step_read 16 31 rfl rfl (by kernel_rfl) (by kernel_rfl) (by kernel_rfl) (fun _ _ _ h => h) (by rfl) (v := ?_) (fun w hSw => ?_) (by assumption) ?_; rotate_left; (focus ((try dsimp only at hSw); go_simp; first | done | exact rfl)); simp only [List.set]
  refine step_read 18 33 rfl rfl (by kernel_rfl) (by kernel_rfl) (by kernel_rfl) (fun _ _ _ h => h) (by rfl) (v := ?_) (fun w hSw => ?_) (by assumption) ?_; rotate_left; (focus ((try dsimp only at hSw); go_simp; first | done | exact rfl)); simp only [List.set]
  refine step_read 19 34 rfl rfl (by kernel_rfl) (by kernel_rfl) (by kernel_rfl) (fun _ _ _ h => h) (by rfl) (v := ?_) (fun w hSw => ?_) (by assumption) ?_; rotate_left; (focus ((try dsimp only at hSw); go_simp; first | done | exact rfl)); simp only [List.set]
  refine step_read 20 35 rfl rfl (by kernel_rfl) (by kernel_rfl) (by kernel_rfl) (fun _ _ _ h => h) (by rfl) (v := ?_) (fun w hSw => ?_) (by assumption) ?_; rotate_left; (focus ((try dsimp only at hSw); go_simp; first | done | exact rfl)); simp only [List.set]
  refine step_read 21 36 rfl rfl (by kernel_rfl) (by kernel_rfl) (by kernel_rfl) (fun _ _ _ h => h) (by rfl) (v := ?_) (fun w hSw => ?_) (by assumption) ?_; rotate_left; (focus ((try dsimp only at hSw); go_simp; first | done | exact rfl)); simp only [List.set]
  refine step_read 22 37 rfl rfl (by kernel_rfl) (by kernel_rfl) (by kernel_rfl) (fun _ _ _ h => h) (by rfl) (v := ?_) (fun w hSw => ?_) (by assumption) ?_; rotate_left; (focus ((try dsimp only at hSw); go_simp; first | done | exact rfl)); simp only [List.set]
  refine wpAnyH_ready (rs := [5]) (by kernel_rfl) (by simp) ?_
  refine AllReadyH.cons rfl (fun Kc hK => ?_) (AllReadyH.nil)
  go_simp
  go_at_call 99
  refine (D2.out _ (sp_sv hHeld).sv).mono ?_
  rintro e w3 ⟨rfl, kkw3, mmw3⟩
  have Hh := Lib.hid hHeld
  have Mmw3 := Lib.hid mmw3
  clear hHeld mmw3
  refine hK.out _ _ ?_ (fun hHeld => ?_)
  · exact sp_keep hX1 hw1 hD0 hs10 hf10 E1.out E2.out Hh.out kkw3
  clear hK Kc
  refine step_read 17 32 rfl rfl (by kernel_rfl) (by kernel_rfl) (by kernel_rfl) (fun _ _ _ h => h) (by rfl) (v := ?_) (fun w hSw => ?_) (by assumption) ?_; rotate_left; (focus ((try dsimp only at hSw); go_simp; first | done | exact rfl)); simp only [List.set]
  refine wpAnyH_ready (rs := [23]) (by kernel_rfl) (by simp) ?_
  refine AllReadyH.cons rfl (fun Kc hK => ?_) (AllReadyH.nil)
  go_simp
  go_at_call 99
  refine (D3.out _ (sp_sv hHeld).sv).mono ?_
  rintro e w4 ⟨rfl, kkw4, mmw4⟩
  have Hh := Lib.hid hHeld
  have Mmw4 := Lib.hid mmw4
  clear hHeld mmw4
  refine hK.out _ _ ?_ (fun hHeld => ?_)
  · exact sp_keep hX1 hw1 hD0 hs10 hf10 E1.out E2.out Hh.out kkw4
  clear hK Kc
  refine step_read 24 39 rfl rfl (by kernel_rfl) (by kernel_rfl) (by kernel_rfl) (fun _ _ _ h => h) (by rfl) (v := ?_) (fun w hSw => ?_) (by assumption) ?_; rotate_left; (focus ((try dsimp only at hSw); go_simp; first | done | exact rfl)); simp only [List.set]
  refine step_read 25 8 rfl rfl (by kernel_rfl) (by kernel_rfl) (by kernel_rfl) (fun _ _ _ h => h) (by rfl) (v := ?_) (fun w hSw => ?_) (by assumption) ?_; rotate_left; (focus ((try dsimp only at hSw); go_simp; first | done | exact rfl)); simp only [List.set]
  refine wpAnyH_done (by kernel_rfl) ?_ _
  have S1 := hHeld
  clear hHeld
  go_wp2_with fail
  refine wp_region_held_drew (S := (fun w' => w'.cell? ⟨w.heap.size, 0, none⟩ = some (.pointer (some ⟨X, 0, none⟩)) ∧ w'.cell? ⟨w.heap.size, 1, none⟩ = some (.int .i64 (s : Int)) ∧ w'.cell? ⟨w.heap.size, 2, none⟩ = some (.int .i64 (f : Int)) ∧ w'.cell? ⟨X, 2 + s * 10 + f, none⟩ = some (.int .i64 c1) ∧ w'.cell? ⟨X, 2 + f * 10 + s, none⟩ = some (.int .i64 c2) ∧ Hid (Kx X M L w1 w'))) (by kernel_rfl) ?_ (fun hHeld => ?_)
  · exact sp_drew S1
  refine step_read 0 40 rfl rfl (by kernel_rfl) (by kernel_rfl) (by kernel_rfl) (fun _ _ _ h => h) (by rfl) (v := ?_) (fun w hSw => ?_) (by assumption) ?_; rotate_left; (focus ((try dsimp only at hSw); go_simp; first | done | exact rfl)); simp only [List.set]
  refine step_read 1 41 rfl rfl (by kernel_rfl) (by kernel_rfl) (by kernel_rfl) (fun _ _ _ h => h) (by rfl) (v := ?_) (fun w hSw => ?_) (by assumption) ?_; rotate_left; (focus ((try dsimp only at hSw); go_simp; first | done | exact rfl)); simp only [List.set]
  refine step_read 2 42 rfl rfl (by kernel_rfl) (by kernel_rfl) (by kernel_rfl) (fun _ _ _ h => h) (by rfl) (v := ?_) (fun w hSw => ?_) (by assumption) ?_; rotate_left; (focus ((try dsimp only at hSw); go_simp; first | done | exact rfl)); simp only [List.set]
  refine step_read 3 43 rfl rfl (by kernel_rfl) (by kernel_rfl) (by kernel_rfl) (fun _ _ _ h => h) (by rfl) (v := ?_) (fun w hSw => ?_) (by assumption) ?_; rotate_left; (focus ((try dsimp only at hSw); go_simp; first | done | exact rfl)); simp only [List.set]
  refine step_read 4 44 rfl rfl (by kernel_rfl) (by kernel_rfl) (by kernel_rfl) (fun _ _ _ h => h) (by rfl) (v := ?_) (fun w hSw => ?_) (by assumption) ?_; rotate_left; (focus ((try dsimp only at hSw); go_simp; first | done | exact rfl)); simp only [List.set]
  refine step_read 6 46 rfl rfl (by kernel_rfl) (by kernel_rfl) (by kernel_rfl) (fun _ _ _ h => h) (by rfl) (v := ?_) (fun w hSw => ?_) (by assumption) ?_; rotate_left; (focus ((try dsimp only at hSw); go_simp; first | done | exact rfl)); simp only [List.set]
  refine step_read 7 47 rfl rfl (by kernel_rfl) (by kernel_rfl) (by kernel_rfl) (fun _ _ _ h => h) (by rfl) (v := ?_) (fun w hSw => ?_) (by assumption) ?_; rotate_left; (focus ((try dsimp only at hSw); go_simp; first | done | exact rfl)); simp only [List.set]
  refine step_read 8 48 rfl rfl (by kernel_rfl) (by kernel_rfl) (by kernel_rfl) (fun _ _ _ h => h) (by rfl) (v := ?_) (fun w hSw => ?_) (by assumption) ?_; rotate_left; (focus ((try dsimp only at hSw); go_simp; first | done | exact rfl)); simp only [List.set]
  refine step_read 9 49 rfl rfl (by kernel_rfl) (by kernel_rfl) (by kernel_rfl) (fun _ _ _ h => h) (by rfl) (v := ?_) (fun w hSw => ?_) (by assumption) ?_; rotate_left; (focus ((try dsimp only at hSw); go_simp; first | done | exact rfl)); simp only [List.set]
  refine step_read 10 50 rfl rfl (by kernel_rfl) (by kernel_rfl) (by kernel_rfl) (fun _ _ _ h => h) (by rfl) (v := ?_) (fun w hSw => ?_) (by assumption) ?_; rotate_left; (focus ((try dsimp only at hSw); go_simp; first | done | exact rfl)); simp only [List.set]
  refine step_read 11 51 rfl rfl (by kernel_rfl) (by kernel_rfl) (by kernel_rfl) (fun _ _ _ h => h) (by rfl) (v := ?_) (fun w hSw => ?_) (by assumption) ?_; rotate_left; (focus ((try dsimp only at hSw); go_simp; first | done | exact rfl)); simp only [List.set]
  refine step_read 12 52 rfl rfl (by kernel_rfl) (by kernel_rfl) (by kernel_rfl) (fun _ _ _ h => h) (by rfl) (v := ?_) (fun w hSw => ?_) (by assumption) ?_; rotate_left; (focus ((try dsimp only at hSw); go_simp; first | done | exact rfl)); simp only [List.set]
  refine step_read 13 53 rfl rfl (by kernel_rfl) (by kernel_rfl) (by kernel_rfl) (fun _ _ _ h => h) (by rfl) (v := ?_) (fun w hSw => ?_) (by assumption) ?_; rotate_left; (focus ((try dsimp only at hSw); go_simp; first | done | exact rfl)); simp only [List.set]
  refine step_read 14 54 rfl rfl (by kernel_rfl) (by kernel_rfl) (by kernel_rfl) (fun _ _ _ h => h) (by rfl) (v := ?_) (fun w hSw => ?_) (by assumption) ?_; rotate_left; (focus ((try dsimp only at hSw); go_simp; first | done | exact rfl)); simp only [List.set]
  refine step_read 15 55 rfl rfl (by kernel_rfl) (by kernel_rfl) (by kernel_rfl) (fun _ _ _ h => h) (by rfl) (v := ?_) (fun w hSw => ?_) (by assumption) ?_; rotate_left; (focus ((try dsimp only at hSw); go_simp; first | done | exact rfl)); simp only [List.set]
  refine step_read 16 56 rfl rfl (by kernel_rfl) (by kernel_rfl) (by kernel_rfl) (fun _ _ _ h => h) (by rfl) (v := ?_) (fun w hSw => ?_) (by assumption) ?_; rotate_left; (focus ((try dsimp only at hSw); go_simp; first | done | exact rfl)); simp only [List.set]
  refine step_read 18 58 rfl rfl (by kernel_rfl) (by kernel_rfl) (by kernel_rfl) (fun _ _ _ h => h) (by rfl) (v := ?_) (fun w hSw => ?_) (by assumption) ?_; rotate_left; (focus ((try dsimp only at hSw); go_simp; first | done | exact rfl)); simp only [List.set]
  refine step_read 19 59 rfl rfl (by kernel_rfl) (by kernel_rfl) (by kernel_rfl) (fun _ _ _ h => h) (by rfl) (v := ?_) (fun w hSw => ?_) (by assumption) ?_; rotate_left; (focus ((try dsimp only at hSw); go_simp; first | done | exact rfl)); simp only [List.set]
  refine step_read 20 60 rfl rfl (by kernel_rfl) (by kernel_rfl) (by kernel_rfl) (fun _ _ _ h => h) (by rfl) (v := ?_) (fun w hSw => ?_) (by assumption) ?_; rotate_left; (focus ((try dsimp only at hSw); go_simp; first | done | exact rfl)); simp only [List.set]
  refine step_read 21 61 rfl rfl (by kernel_rfl) (by kernel_rfl) (by kernel_rfl) (fun _ _ _ h => h) (by rfl) (v := ?_) (fun w hSw => ?_) (by assumption) ?_; rotate_left; (focus ((try dsimp only at hSw); go_simp; first | done | exact rfl)); simp only [List.set]
  refine step_read 22 62 rfl rfl (by kernel_rfl) (by kernel_rfl) (by kernel_rfl) (fun _ _ _ h => h) (by rfl) (v := ?_) (fun w hSw => ?_) (by assumption) ?_; rotate_left; (focus ((try dsimp only at hSw); go_simp; first | done | exact rfl)); simp only [List.set]
  refine wpAnyH_ready (rs := [5]) (by kernel_rfl) (by simp) ?_
  refine AllReadyH.cons rfl (fun Kc hK => ?_) (AllReadyH.nil)
  go_simp
  go_at_call 99
  refine (D4.out _ (sp_sv hHeld).sv).mono ?_
  rintro e w5 ⟨rfl, kkw5, mmw5⟩
  have Hh := Lib.hid hHeld
  have Mmw5 := Lib.hid mmw5
  clear hHeld mmw5
  refine hK.out _ _ ?_ (fun hHeld => ?_)
  · exact sp_keep hX1 hw1 hD0 hs10 hf10 E1.out E2.out Hh.out kkw5
  clear hK Kc
  refine step_read 17 57 rfl rfl (by kernel_rfl) (by kernel_rfl) (by kernel_rfl) (fun _ _ _ h => h) (by rfl) (v := ?_) (fun w hSw => ?_) (by assumption) ?_; rotate_left; (focus ((try dsimp only at hSw); go_simp; first | done | exact rfl)); simp only [List.set]
  refine wpAnyH_ready (rs := [23]) (by kernel_rfl) (by simp) ?_
  refine AllReadyH.cons rfl (fun Kc hK => ?_) (AllReadyH.nil)
  go_simp
  go_at_call 99
  refine (D5.out _ (sp_sv hHeld).sv).mono ?_
  rintro e w6 ⟨rfl, kkw6, mmw6⟩
  have Hh := Lib.hid hHeld
  have Mmw6 := Lib.hid mmw6
  clear hHeld mmw6
  refine hK.out _ _ ?_ (fun hHeld => ?_)
  · exact sp_keep hX1 hw1 hD0 hs10 hf10 E1.out E2.out Hh.out kkw6
  clear hK Kc
  refine step_read 24 64 rfl rfl (by kernel_rfl) (by kernel_rfl) (by kernel_rfl) (fun _ _ _ h => h) (by rfl) (v := ?_) (fun w hSw => ?_) (by assumption) ?_; rotate_left; (focus ((try dsimp only at hSw); go_simp; first | done | exact rfl)); simp only [List.set]
  refine step_read 25 9 rfl rfl (by kernel_rfl) (by kernel_rfl) (by kernel_rfl) (fun _ _ _ h => h) (by rfl) (v := ?_) (fun w hSw => ?_) (by assumption) ?_; rotate_left; (focus ((try dsimp only at hSw); go_simp; first | done | exact rfl)); simp only [List.set]
  refine wpAnyH_done (by kernel_rfl) ?_ _
  have KE := Lib.hid (K2.out.trans hsx (sp_sv hHeld))
  clear hHeld
  by_cases a1 : q1 = 1000000
  · have z1 : (q1 != 1000000) = false := by simp [a1]
    have z2 : decide (q1 ≠ 1000000) = false := by simp [a1]
    clear a1
    go_wp2
    go_ret
    exact ⟨by rw [z2]; rfl, K1.out.trans hX KE.out, Mmw6.out⟩
  · have z1 : (q1 != 1000000) = true := by simp [a1]
    have z2 : decide (q1 ≠ 1000000) = true := by simp [a1]
    clear a1
    by_cases a2 : q1 < q2 + c1 + q3
    · have z3 : decide (q1 < q2 + c1 + q3) = true := decide_eq_true a2
      clear a2
      go_wp2
      go_ret
      exact ⟨by rw [z2, z3]; rfl, K1.out.trans hX KE.out, Mmw6.out⟩
    · have z3 : decide (q1 < q2 + c1 + q3) = false := decide_eq_false a2
      clear a2
      go_wp2
      go_ret
      exact ⟨by rw [z2, z3]; rfl, K1.out.trans hX KE.out, Mmw6.out⟩

set_option maxRecDepth 100000 in
set_option maxHeartbeats 4000000 in
theorem remote_any (X M s f d : Nat) (L : List Ed) (hs : s < M) (hf : f < M) (hd : d < M) : AskP 70 (rpV X s f d) X M L (remB (M : Int) L (s : Int) (f : Int) (d : Int)) := by
  intro p w h hp
  have hX := h.lt
  have b1 : Below w.heap.size w (w.alloc (.cells #[.pointer (some ⟨X, 0, none⟩), .int .i64 (s : Int), .int .i64 (f : Int), .int .i64 (d : Int)] 69)) := (Below.refl _ _).alloc (Nat.le_refl _) _
  have K1 := Lib.hid (Kx.of h b1)
  have hsx : X < (w.alloc (.cells #[.pointer (some ⟨X, 0, none⟩), .int .i64 (s : Int), .int .i64 (f : Int), .int .i64 (d : Int)] 69)).heap.size := by simp; omega
  have D1 := Lib.hid (fun w h => spares_any X M s f d s p L w h hs hf hs hp)
  have D2 := Lib.hid (fun w h => spares_any X M s f d p d L w h hs hf hp hd)
  have hne : X ≠ w.heap.size := by omega
  have HB : Hid (∀ v : World, Kx X M L (w.alloc (.cells #[.pointer (some ⟨X, 0, none⟩), .int .i64 (s : Int), .int .i64 (f : Int), .int .i64 (d : Int)] 69)) v → v.cell? ⟨w.heap.size, 0, none⟩ = some (.pointer (some ⟨X, 0, none⟩)) ∧ v.cell? ⟨w.heap.size, 1, none⟩ = some (.int .i64 (s : Int)) ∧ v.cell? ⟨w.heap.size, 2, none⟩ = some (.int .i64 (f : Int)) ∧ v.cell? ⟨w.heap.size, 3, none⟩ = some (.int .i64 (d : Int))) := fun v hv => by
    refine ⟨?_, ?_, ?_, ?_⟩ <;> (rw [hv.but.cell (by simp) (fun e => hne e.symm)]; simp)
  unfold remB
  unfold rpV at D1 D2 ⊢
  generalize sprB (M : Int) L (s : Int) (f : Int) (s : Int) (p : Int) = r1 at *
  generalize sprB (M : Int) L (s : Int) (f : Int) (p : Int) (d : Int) = r2 at *
  by_cases e1 : (p : Int) = (s : Int)
  · have z1 : ((p : Int) != (s : Int)) = false := by rw [e1]; simp
    have z2 : ((p : Int) == (s : Int)) = true := by rw [e1]; simp
    clear e1 h b1 D1 D2 HB hs hf hd hp
    go_enter Try.func70, Try.ntmps70
    go_wp2
    go_ret
    exact ⟨by rw [z2]; rfl, K1.out, fun h => by rw [z2] at h; cases h⟩
  · have z1 : ((p : Int) != (s : Int)) = true := by simp [bne, beq_eq_false_iff_ne.2 e1]
    have z2 : ((p : Int) == (s : Int)) = false := beq_eq_false_iff_ne.2 e1
    by_cases e3 : (p : Int) = (f : Int)
    · have z3 : ((p : Int) != (f : Int)) = false := by rw [e3]; simp
      have z4 : ((p : Int) == (f : Int)) = true := by rw [e3]; simp
      clear e1 e3 h b1 D1 D2 HB hs hf hd hp
      go_enter Try.func70, Try.ntmps70
      go_wp2
      go_ret
      exact ⟨by rw [z2, z4]; rfl, K1.out, fun h => by rw [z2, z4] at h; cases h⟩
    · have z3 : ((p : Int) != (f : Int)) = true := by simp [bne, beq_eq_false_iff_ne.2 e3]
      have z4 : ((p : Int) == (f : Int)) = false := beq_eq_false_iff_ne.2 e3
      clear e1 e3 h b1 hs hf hd hp
      go_enter Try.func70, Try.ntmps70
      go_wp2_with fail
      go_at_call 101
      refine (D1.out _ K1.out.sv).mono ?_
      rintro e w2 ⟨rfl, k2, m2⟩
      obtain ⟨y0, y1, y2, y3⟩ := HB.out w2 k2
      have K2 := Lib.hid k2
      have M2 := Lib.hid m2
      clear k2 m2 D1 HB
      cases r1 with
      | false =>
        go_wp2
        go_ret
        exact ⟨by rw [z2, z4]; rfl, K1.out.trans hX K2.out, fun h => by rw [z2, z4] at h; cases h⟩
      | true =>
        go_wp2_with fail
        go_at_call 101
        refine (D2.out _ K2.out.sv).mono ?_
        rintro e w3 ⟨rfl, k3, m3⟩
        have K3 := Lib.hid (K2.out.trans hsx k3)
        have M3 := Lib.hid m3
        clear k3 m3 D2
        go_wp2
        go_ret
        exact ⟨by rw [z2, z4]; simp, K1.out.trans hX K3.out, fun _ => M3.out⟩

end Go.Proofs.Ytnpdbieadjgghaa
