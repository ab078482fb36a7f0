/- The law of PutRoute over contracts. -/
import Derived.Test.YtgdnfglhlpnooaaLDropRoute
namespace Go.Proofs.Ytgdnfglhlpnooaa
open Go.RowKit


theorem rr4_store {w w1 : World} {b0 b1 b2 b3 o0 o1 o2 o3 : Nat} {v0 v1 v2 v3 : Value} (l0 : b0 < w.heap.size) (l1 : b1 < w.heap.size) (l2 : b2 < w.heap.size) (l3 : b3 < w.heap.size) {b o : Nat} {u : Value} (hb : w.heap.size ≤ b) (h : w1.cell? ⟨b0, o0, none⟩ = some v0 ∧ w1.cell? ⟨b1, o1, none⟩ = some v1 ∧ w1.cell? ⟨b2, o2, none⟩ = some v2 ∧ w1.cell? ⟨b3, o3, none⟩ = some v3 ∧ w.heap.size ≤ w1.heap.size ∧ Below w.heap.size w w1) : (w1.setCell ⟨b, o, none⟩ u).cell? ⟨b0, o0, none⟩ = some v0 ∧ (w1.setCell ⟨b, o, none⟩ u).cell? ⟨b1, o1, none⟩ = some v1 ∧ (w1.setCell ⟨b, o, none⟩ u).cell? ⟨b2, o2, none⟩ = some v2 ∧ (w1.setCell ⟨b, o, none⟩ u).cell? ⟨b3, o3, none⟩ = some v3 ∧ w.heap.size ≤ (w1.setCell ⟨b, o, none⟩ u).heap.size ∧ Below w.heap.size w (w1.setCell ⟨b, o, none⟩ u) := by
  obtain ⟨h0, h1, h2, h3, hs, hB⟩ := h
  exact ⟨by rw [World.cell?_setCell_other _ _ _ _ (by simp <;> omega)]; exact h0, by rw [World.cell?_setCell_other _ _ _ _ (by simp <;> omega)]; exact h1, by rw [World.cell?_setCell_other _ _ _ _ (by simp <;> omega)]; exact h2, by rw [World.cell?_setCell_other _ _ _ _ (by simp <;> omega)]; exact h3, by simp [World.setCell]; omega, hB.setCell (by show _ ≤ b; omega) _⟩

set_option maxRecDepth 100000 in
set_option maxHeartbeats 8000000 in
theorem lawExactPutRoute_fit (s : Value) (n : Nat) (Z : Nat → Int) (z0 z1 z2 : Int) (w : World) (hA : Arg 3 w s n Z) (hn : n ≤ 1048576) (m : Nat) (ZR : List Int) (b : Bool) (hm : m ≤ 1100000)
    (hs : ∀ (lo hi : Nat) (v : Value) (w : World), Row 3 w lo hi v n (zs Z n 3) → hi ≤ w.heap.size → Calls Try.prog 19 #[.agg #[v], .agg #[.int .i64 z0, .int .i64 z1, .int .i64 z2]] w fun e w' => ∃ rv, e = .returned (.tuple #[.agg #[rv], .bool b]) ∧ Row 3 w' w.heap.size w'.heap.size rv m ZR ∧ Below w.heap.size w w')
    (hi : ∀ (lo hi : Nat) (v : Value) (w : World), Row 3 w lo hi v n (zs Z n 3) → hi ≤ w.heap.size → Calls Try.prog 21 #[.agg #[v], .agg #[.int .i64 z0, .int .i64 z1, .int .i64 z2]] w fun e w' => ∃ rv, e = .returned (.tuple #[.agg #[rv], .bool b]) ∧ Row 3 w' w.heap.size w'.heap.size rv m ZR ∧ Below w.heap.size w w') :
    Calls Try.prog 4 #[.agg #[s], .agg #[.int .i64 z0, .int .i64 z1, .int .i64 z2]] w fun e w' => e = .returned (.bool true) ∧ Below w.heap.size w w' := by
  have hx := hA.2.1
  have HA := Lib.hid hA
  obtain ⟨ad, cp, rfl⟩ := hA.slice
  clear hA
  have Hs := Lib.hid hs
  have Hi := Lib.hid hi
  clear hs hi
  obtain ⟨KG, hKG⟩ : ∃ K : Int, K = 1 + ((m * 3 : Nat) : Int) := ⟨_, rfl⟩
  have hKG0 : 0 ≤ KG := by omega
  have hKG1 : ¬ (KG < 0) := by omega
  have HKG := Lib.hid hKG
  clear hKG
  obtain ⟨KX, hKX⟩ : ∃ K : Int, K = 1 + ((n * 3 : Nat) : Int) := ⟨_, rfl⟩
  have hKX0 : 0 ≤ KX := by omega
  have hKX1 : ¬ (KX < 0) := by omega
  have HKX := Lib.hid hKX
  clear hKX
  have H0 := fun w => szTable_any ad n cp (1048576) w hx (by omega) (by omega)
  have hneg : ¬ ((1048576 : Int) - (n : Int) < 0) := by omega
  simp only [if_neg hneg] at H0
  go_enter Try.func4, Try.ntmps4
  go_wp2_with fail
  go_at_call 11
  refine (H0 _).mono ?_
  rintro e v1 ⟨rfl, hb1⟩
  have sz1 : w.heap.size + 2 ≤ v1.heap.size := by have hh := hb1.size; simp at hh; omega
  have st1 : Below w.heap.size w v1 := Below.trans (by go_grown) (hb1.mono (by simp <;> omega))
  have c1_0 : v1.cell? ⟨w.heap.size, 0, none⟩ = some (.slice ad n cp) := by rw [(bcell hb1).1 _ _ (by simp <;> omega), old_box (by simp <;> omega)]; first | (rw [new_at (by simp)]; rfl) | simp
  have c1_1 : v1.cell? ⟨w.heap.size + 1, 0, none⟩ = some (.int .i64 z0) := by rw [(bcell hb1).1 _ _ (by simp)]; first | (rw [new_at (by simp)]; rfl) | simp
  have c1_2 : v1.cell? ⟨w.heap.size + 1, 1, none⟩ = some (.int .i64 z1) := by rw [(bcell hb1).1 _ _ (by simp)]; first | (rw [new_at (by simp)]; rfl) | simp
  have c1_3 : v1.cell? ⟨w.heap.size + 1, 2, none⟩ = some (.int .i64 z2) := by rw [(bcell hb1).1 _ _ (by simp)]; first | (rw [new_at (by simp)]; rfl) | simp
  have B1 : Hid (Below w.heap.size w v1) := st1
  have d1_0 : w.heap.size < v1.heap.size := by omega
  have e1_0 : w.heap.size ≠ v1.heap.size := by omega
  have d1_1 : w.heap.size + 1 < v1.heap.size := by omega
  have e1_1 : w.heap.size + 1 ≠ v1.heap.size := by omega
  clear st1 hb1
  go_upto_region 5 with fail
  go_cut [6, 7] (fun s6 s7 wx => ∃ (bx lo hi : Nat) (va : Option Addr) (vc : Nat), s6 = .pointer (some ⟨bx, 0, none⟩) ∧ s7 = .bool b ∧ Hid (BoxR v1 wx bx lo hi (.slice va m vc) m ZR))
  case first =>
    go_wp2_with fail
    refine wp_region_held_drew (S := (fun w' => w'.cell? ⟨w.heap.size, 0, none⟩ = some (.slice ad n cp) ∧ w'.cell? ⟨w.heap.size + 1, 0, none⟩ = some (.int .i64 z0) ∧ w'.cell? ⟨w.heap.size + 1, 1, none⟩ = some (.int .i64 z1) ∧ w'.cell? ⟨w.heap.size + 1, 2, none⟩ = some (.int .i64 z2) ∧ v1.heap.size ≤ w'.heap.size ∧ Below v1.heap.size v1 w')) (by kernel_rfl) ?_ (fun hHeld => ?_)
    · (first | assumption | exact rr4_start c1_0 c1_1 c1_2 c1_3 | exact rr4_drew (by assumption) | exact rr4_keep (by omega) (by omega) (by omega) (by omega) hb (by assumption) | exact rr4_store (by omega) (by omega) (by omega) (by omega) (by omega) (by assumption) | fail)
    refine step_read 0 22 rfl rfl (by kernel_rfl) (by kernel_rfl) (by kernel_rfl) (fun _ _ _ h => h) (by rfl) (v := ?_) (fun w hSw => ?_) (by assumption) ?_; rotate_left; (focus ((try dsimp only at hSw); go_simp; first | done | exact rfl)); simp only [List.set]
    refine step_read 2 24 rfl rfl (by kernel_rfl) (by kernel_rfl) (by kernel_rfl) (fun _ _ _ h => h) (by rfl) (v := ?_) (fun w hSw => ?_) (by assumption) ?_; rotate_left; (focus ((try dsimp only at hSw); go_simp; first | done | exact rfl)); simp only [List.set]
    refine wpAnyH_ready (rs := [1, 8]) (by kernel_rfl) (by simp) ?_
    refine AllReadyH.cons rfl (fun Kc hK => ?_) (AllReadyH.cons rfl (fun Kc hK => ?_) (AllReadyH.nil))
    · go_simp
      go_at_call 13
      refine (toTable_any _ n Z _ (HA.out.below (B1.out.trans ((rr4_out (by assumption)).2.mono (by omega)))) hn).mono ?_
      rintro e wr1 ⟨yv, rfl, ry, hb⟩
      have hzz := hb.size
      refine hK.out _ _ ?_ (fun hHeld => ?_)
      · (first | assumption | exact rr4_start c1_0 c1_1 c1_2 c1_3 | exact rr4_drew (by assumption) | exact rr4_keep (by omega) (by omega) (by omega) (by omega) hb (by assumption) | exact rr4_store (by omega) (by omega) (by omega) (by omega) (by omega) (by assumption) | fail)
      clear hK Kc
      refine wpAnyH_ready (rs := [3, 8]) (by kernel_rfl) (by simp) ?_
      refine AllReadyH.cons rfl (fun Kc hK => ?_) (AllReadyH.cons rfl (fun Kc hK => ?_) (AllReadyH.nil))
      · go_simp
        go_at_call 20
        refine (toRoute_any z0 z1 z2 _).mono ?_
        rintro e wr2 ⟨rfl, hb⟩
        have hzz := hb.size
        replace ry := ry.below hb (by first | exact Nat.le_refl _ | omega)
        refine hK.out _ _ ?_ (fun hHeld => ?_)
        · (first | assumption | exact rr4_start c1_0 c1_1 c1_2 c1_3 | exact rr4_drew (by assumption) | exact rr4_keep (by omega) (by omega) (by omega) (by omega) hb (by assumption) | exact rr4_store (by omega) (by omega) (by omega) (by omega) (by omega) (by assumption) | fail)
        clear hK Kc
        refine wpAnyH_ready (rs := [4, 8]) (by kernel_rfl) (by simp) ?_
        refine AllReadyH.cons rfl (fun Kc hK => ?_) (AllReadyH.cons rfl (fun Kc hK => ?_) (AllReadyH.nil))
        · go_simp
          go_at_call 19
          refine (Hs.out _ _ _ _ ry (by first | exact Nat.le_refl _ | omega)).mono ?_
          rintro e wr3 ⟨qv, rfl, rq, hb⟩
          have hzz := hb.size
          obtain ⟨qa, qc, rfl⟩ := rq.slice
          replace ry := ry.below hb (by first | exact Nat.le_refl _ | omega)
          refine hK.out _ _ ?_ (fun hHeld => ?_)
          · (first | assumption | exact rr4_start c1_0 c1_1 c1_2 c1_3 | exact rr4_drew (by assumption) | exact rr4_keep (by omega) (by omega) (by omega) (by omega) hb (by assumption) | exact rr4_store (by omega) (by omega) (by omega) (by omega) (by omega) (by assumption) | fail)
          clear hK Kc
          refine step_read 5 21 rfl rfl (by kernel_rfl) (by kernel_rfl) (by kernel_rfl) (fun _ _ _ h => h) (by rfl) (v := ?_) (fun w hSw => ?_) (by assumption) ?_; rotate_left; (focus ((try dsimp only at hSw); go_simp; first | done | exact rfl)); simp only [List.set]
          refine step_read 6 27 rfl rfl (by kernel_rfl) (by kernel_rfl) (by kernel_rfl) (fun _ _ _ h => h) (by rfl) (v := ?_) (fun w hSw => ?_) (by assumption) ?_; rotate_left; (focus ((try dsimp only at hSw); go_simp; first | done | exact rfl)); simp only [List.set]
          refine step_read 7 28 rfl rfl (by kernel_rfl) (by kernel_rfl) (by kernel_rfl) (fun _ _ _ h => h) (by rfl) (v := ?_) (fun w hSw => ?_) (by assumption) ?_; rotate_left; (focus ((try dsimp only at hSw); go_simp; first | done | exact rfl)); simp only [List.set]
          refine wpAnyH_ready (rs := [8]) (by kernel_rfl) (by simp) ?_
          refine AllReadyH.cons rfl (fun Kc hK => ?_) (AllReadyH.nil)
          go_simp
          refine at_world (fun wa4 hwa => ?_)
          have hb : Below wr3.heap.size wr3 wa4 := by rw [hwa]; exact (Below.refl _ _).alloc (Nat.le_refl _) _
          have bc : wa4.cell? ⟨wr3.heap.size, 0, none⟩ = some (.slice none 0 0) := by rw [hwa]; simp
          have bf : wa4.frozen? ⟨wr3.heap.size, 0, none⟩ = false := by rw [hwa]; simp [go_sem]
          have hbz : wr3.heap.size < wa4.heap.size := by rw [hwa]; simp
          have hzz := hb.size
          replace ry := ry.below hb (by first | exact Nat.le_refl _ | omega)
          replace rq := rq.below hb (by first | exact Nat.le_refl _ | omega)
          have hbb : v1.heap.size ≤ wr3.heap.size := by first | exact Nat.le_refl _ | (have hq := (rr4_out (by assumption)).1; omega)
          have hSn :  wa4.cell? ⟨w.heap.size, 0, none⟩ = some (.slice ad n cp) ∧ wa4.cell? ⟨w.heap.size + 1, 0, none⟩ = some (.int .i64 z0) ∧ wa4.cell? ⟨w.heap.size + 1, 1, none⟩ = some (.int .i64 z1) ∧ wa4.cell? ⟨w.heap.size + 1, 2, none⟩ = some (.int .i64 z2) ∧ v1.heap.size ≤ wa4.heap.size ∧ Below v1.heap.size v1 wa4 := by rw [hwa]; first | exact rr4_drew (rr4_box (by omega) (by omega) (by omega) (by omega) HSB) | exact rr4_box (by omega) (by omega) (by omega) (by omega) (by assumption)
          clear hwa
          refine hK.out _ _ ?_ (fun hHeld => ?_)
          · (first | assumption | exact rr4_start c1_0 c1_1 c1_2 c1_3 | exact rr4_drew (by assumption) | exact rr4_keep (by omega) (by omega) (by omega) (by omega) hb (by assumption) | exact rr4_store (by omega) (by omega) (by omega) (by omega) (by omega) (by assumption) | fail)
          clear hK Kc
          refine wpAnyH_ready (rs := [9]) (by kernel_rfl) (by simp) ?_
          refine AllReadyH.cons rfl (fun Kc hK => ?_) (AllReadyH.nil)
          go_simp
          refine at_world (fun ws5 hwa => ?_)
          have hBR := BoxR.mk' hwa rq (base := v1) (by have hq := (rr4_out (by assumption)).1; omega) (by omega) hbb (by omega) (by omega) bc (rr4_out (by assumption)).2
          have hSn :  ws5.cell? ⟨w.heap.size, 0, none⟩ = some (.slice ad n cp) ∧ ws5.cell? ⟨w.heap.size + 1, 0, none⟩ = some (.int .i64 z0) ∧ ws5.cell? ⟨w.heap.size + 1, 1, none⟩ = some (.int .i64 z1) ∧ ws5.cell? ⟨w.heap.size + 1, 2, none⟩ = some (.int .i64 z2) ∧ v1.heap.size ≤ ws5.heap.size ∧ Below v1.heap.size v1 ws5 := by rw [hwa]; exact rr4_store (by omega) (by omega) (by omega) (by omega) hbb (by assumption)
          clear hwa
          refine hK.out _ _ ?_ (fun hHeld => ?_)
          · (first | assumption | exact rr4_start c1_0 c1_1 c1_2 c1_3 | exact rr4_drew (by assumption) | exact rr4_keep (by omega) (by omega) (by omega) (by omega) hb (by assumption) | exact rr4_store (by omega) (by omega) (by omega) (by omega) (by omega) (by assumption) | fail)
          clear hK Kc
          refine step_read 10 7 rfl rfl (by kernel_rfl) (by kernel_rfl) (by kernel_rfl) (fun _ _ _ h => h) (by rfl) (v := ?_) (fun w hSw => ?_) (by assumption) ?_; rotate_left; (focus ((try dsimp only at hSw); go_simp; first | done | exact rfl)); simp only [List.set]
          refine wpAnyH_done (by kernel_rfl) ?_ _
          go_wp2_with fail
          go_meet
          exact ⟨_, _, _, _, _, rfl, rfl, Lib.hid hBR⟩
        · go_simp
          refine at_world (fun wa6 hwa => ?_)
          have hb : Below wr2.heap.size wr2 wa6 := by rw [hwa]; exact (Below.refl _ _).alloc (Nat.le_refl _) _
          have bc : wa6.cell? ⟨wr2.heap.size, 0, none⟩ = some (.slice none 0 0) := by rw [hwa]; simp
          have bf : wa6.frozen? ⟨wr2.heap.size, 0, none⟩ = false := by rw [hwa]; simp [go_sem]
          have hbz : wr2.heap.size < wa6.heap.size := by rw [hwa]; simp
          have hzz := hb.size
          replace ry := ry.below hb (by first | exact Nat.le_refl _ | omega)
          have hbb : v1.heap.size ≤ wr2.heap.size := by first | exact Nat.le_refl _ | (have hq := (rr4_out (by assumption)).1; omega)
          have hSn :  wa6.cell? ⟨w.heap.size, 0, none⟩ = some (.slice ad n cp) ∧ wa6.cell? ⟨w.heap.size + 1, 0, none⟩ = some (.int .i64 z0) ∧ wa6.cell? ⟨w.heap.size + 1, 1, none⟩ = some (.int .i64 z1) ∧ wa6.cell? ⟨w.heap.size + 1, 2, none⟩ = some (.int .i64 z2) ∧ v1.heap.size ≤ wa6.heap.size ∧ Below v1.heap.size v1 wa6 := by rw [hwa]; first | exact rr4_drew (rr4_box (by omega) (by omega) (by omega) (by omega) HSB) | exact rr4_box (by omega) (by omega) (by omega) (by omega) (by assumption)
          clear hwa
          refine hK.out _ _ ?_ (fun hHeld => ?_)
          · (first | assumption | exact rr4_start c1_0 c1_1 c1_2 c1_3 | exact rr4_drew (by assumption) | exact rr4_keep (by omega) (by omega) (by omega) (by omega) hb (by assumption) | exact rr4_store (by omega) (by omega) (by omega) (by omega) (by omega) (by assumption) | fail)
          clear hK Kc
          refine wpAnyH_ready (rs := [4]) (by kernel_rfl) (by simp) ?_
          refine AllReadyH.cons rfl (fun Kc hK => ?_) (AllReadyH.nil)
          go_simp
          go_at_call 19
          refine (Hs.out _ _ _ _ ry (by first | exact Nat.le_refl _ | omega)).mono ?_
          rintro e wr7 ⟨qv, rfl, rq, hb⟩
          have hzz := hb.size
          obtain ⟨qa, qc, rfl⟩ := rq.slice
          have hbz0 := hbz
          replace ry := ry.below hb (by first | exact Nat.le_refl _ | omega)
          replace bc : wr7.cell? ⟨wr2.heap.size, 0, none⟩ = some (.slice none 0 0) := by rw [hb.cell (p := ⟨wr2.heap.size, 0, none⟩) hbz]; exact bc
          replace bf : wr7.frozen? ⟨wr2.heap.size, 0, none⟩ = false := by rw [hb.frozen (p := ⟨wr2.heap.size, 0, none⟩) hbz]; exact bf
          replace hbz : wr2.heap.size < wr7.heap.size := Nat.lt_of_lt_of_le hbz hb.size
          refine hK.out _ _ ?_ (fun hHeld => ?_)
          · (first | assumption | exact rr4_start c1_0 c1_1 c1_2 c1_3 | exact rr4_drew (by assumption) | exact rr4_keep (by omega) (by omega) (by omega) (by omega) hb (by assumption) | exact rr4_store (by omega) (by omega) (by omega) (by omega) (by omega) (by assumption) | fail)
          clear hK Kc
          refine step_read 5 21 rfl rfl (by kernel_rfl) (by kernel_rfl) (by kernel_rfl) (fun _ _ _ h => h) (by rfl) (v := ?_) (fun w hSw => ?_) (by assumption) ?_; rotate_left; (focus ((try dsimp only at hSw); go_simp; first | done | exact rfl)); simp only [List.set]
          refine step_read 6 27 rfl rfl (by kernel_rfl) (by kernel_rfl) (by kernel_rfl) (fun _ _ _ h => h) (by rfl) (v := ?_) (fun w hSw => ?_) (by assumption) ?_; rotate_left; (focus ((try dsimp only at hSw); go_simp; first | done | exact rfl)); simp only [List.set]
          refine step_read 7 28 rfl rfl (by kernel_rfl) (by kernel_rfl) (by kernel_rfl) (fun _ _ _ h => h) (by rfl) (v := ?_) (fun w hSw => ?_) (by assumption) ?_; rotate_left; (focus ((try dsimp only at hSw); go_simp; first | done | exact rfl)); simp only [List.set]
          refine wpAnyH_ready (rs := [9]) (by kernel_rfl) (by simp) ?_
          refine AllReadyH.cons rfl (fun Kc hK => ?_) (AllReadyH.nil)
          go_simp
          refine at_world (fun ws8 hwa => ?_)
          have hBR := BoxR.mk' hwa rq (base := v1) (by have hq := (rr4_out (by assumption)).1; omega) (by omega) hbb (by omega) (by omega) bc (rr4_out (by assumption)).2
          have hSn :  ws8.cell? ⟨w.heap.size, 0, none⟩ = some (.slice ad n cp) ∧ ws8.cell? ⟨w.heap.size + 1, 0, none⟩ = some (.int .i64 z0) ∧ ws8.cell? ⟨w.heap.size + 1, 1, none⟩ = some (.int .i64 z1) ∧ ws8.cell? ⟨w.heap.size + 1, 2, none⟩ = some (.int .i64 z2) ∧ v1.heap.size ≤ ws8.heap.size ∧ Below v1.heap.size v1 ws8 := by rw [hwa]; exact rr4_store (by omega) (by omega) (by omega) (by omega) hbb (by assumption)
          clear hwa
          refine hK.out _ _ ?_ (fun hHeld => ?_)
          · (first | assumption | exact rr4_start c1_0 c1_1 c1_2 c1_3 | exact rr4_drew (by assumption) | exact rr4_keep (by omega) (by omega) (by omega) (by omega) hb (by assumption) | exact rr4_store (by omega) (by omega) (by omega) (by omega) (by omega) (by assumption) | fail)
          clear hK Kc
          refine step_read 10 7 rfl rfl (by kernel_rfl) (by kernel_rfl) (by kernel_rfl) (fun _ _ _ h => h) (by rfl) (v := ?_) (fun w hSw => ?_) (by assumption) ?_; rotate_left; (focus ((try dsimp only at hSw); go_simp; first | done | exact rfl)); simp only [List.set]
          refine wpAnyH_done (by kernel_rfl) ?_ _
          go_wp2_with fail
          go_meet
          exact ⟨_, _, _, _, _, rfl, rfl, Lib.hid hBR⟩
      · go_simp
        refine at_world (fun wa9 hwa => ?_)
        have hb : Below wr1.heap.size wr1 wa9 := by rw [hwa]; exact (Below.refl _ _).alloc (Nat.le_refl _) _
        have bc : wa9.cell? ⟨wr1.heap.size, 0, none⟩ = some (.slice none 0 0) := by rw [hwa]; simp
        have bf : wa9.frozen? ⟨wr1.heap.size, 0, none⟩ = false := by rw [hwa]; simp [go_sem]
        have hbz : wr1.heap.size < wa9.heap.size := by rw [hwa]; simp
        have hzz := hb.size
        replace ry := ry.below hb (by first | exact Nat.le_refl _ | omega)
        have hbb : v1.heap.size ≤ wr1.heap.size := by first | exact Nat.le_refl _ | (have hq := (rr4_out (by assumption)).1; omega)
        have hSn :  wa9.cell? ⟨w.heap.size, 0, none⟩ = some (.slice ad n cp) ∧ wa9.cell? ⟨w.heap.size + 1, 0, none⟩ = some (.int .i64 z0) ∧ wa9.cell? ⟨w.heap.size + 1, 1, none⟩ = some (.int .i64 z1) ∧ wa9.cell? ⟨w.heap.size + 1, 2, none⟩ = some (.int .i64 z2) ∧ v1.heap.size ≤ wa9.heap.size ∧ Below v1.heap.size v1 wa9 := by rw [hwa]; first | exact rr4_drew (rr4_box (by omega) (by omega) (by omega) (by omega) HSB) | exact rr4_box (by omega) (by omega) (by omega) (by omega) (by assumption)
        clear hwa
        refine hK.out _ _ ?_ (fun hHeld => ?_)
        · (first | assumption | exact rr4_start c1_0 c1_1 c1_2 c1_3 | exact rr4_drew (by assumption) | exact rr4_keep (by omega) (by omega) (by omega) (by omega) hb (by assumption) | exact rr4_store (by omega) (by omega) (by omega) (by omega) (by omega) (by assumption) | fail)
        clear hK Kc
        refine wpAnyH_ready (rs := [3]) (by kernel_rfl) (by simp) ?_
        refine AllReadyH.cons rfl (fun Kc hK => ?_) (AllReadyH.nil)
        go_simp
        go_at_call 20
        refine (toRoute_any z0 z1 z2 _).mono ?_
        rintro e wr10 ⟨rfl, hb⟩
        have hzz := hb.size
        replace ry := ry.below hb (by first | exact Nat.le_refl _ | omega)
        replace bc : wr10.cell? ⟨wr1.heap.size, 0, none⟩ = some (.slice none 0 0) := by rw [hb.cell (p := ⟨wr1.heap.size, 0, none⟩) hbz]; exact bc
        replace bf : wr10.frozen? ⟨wr1.heap.size, 0, none⟩ = false := by rw [hb.frozen (p := ⟨wr1.heap.size, 0, none⟩) hbz]; exact bf
        replace hbz : wr1.heap.size < wr10.heap.size := Nat.lt_of_lt_of_le hbz hb.size
        refine hK.out _ _ ?_ (fun hHeld => ?_)
        · (first | assumption | exact rr4_start c1_0 c1_1 c1_2 c1_3 | exact rr4_drew (by assumption) | exact rr4_keep (by omega) (by omega) (by omega) (by omega) hb (by assumption) | exact rr4_store (by omega) (by omega) (by omega) (by omega) (by omega) (by assumption) | fail)
        clear hK Kc
        refine wpAnyH_ready (rs := [4]) (by kernel_rfl) (by simp) ?_
        refine AllReadyH.cons rfl (fun Kc hK => ?_) (AllReadyH.nil)
        go_simp
        go_at_call 19
        refine (Hs.out _ _ _ _ ry (by first | exact Nat.le_refl _ | omega)).mono ?_
        rintro e wr11 ⟨qv, rfl, rq, hb⟩
        have hzz := hb.size
        obtain ⟨qa, qc, rfl⟩ := rq.slice
        have hbz0 := hbz
        replace ry := ry.below hb (by first | exact Nat.le_refl _ | omega)
        replace bc : wr11.cell? ⟨wr1.heap.size, 0, none⟩ = some (.slice none 0 0) := by rw [hb.cell (p := ⟨wr1.heap.size, 0, none⟩) hbz]; exact bc
        replace bf : wr11.frozen? ⟨wr1.heap.size, 0, none⟩ = false := by rw [hb.frozen (p := ⟨wr1.heap.size, 0, none⟩) hbz]; exact bf
        replace hbz : wr1.heap.size < wr11.heap.size := Nat.lt_of_lt_of_le hbz hb.size
        refine hK.out _ _ ?_ (fun hHeld => ?_)
        · (first | assumption | exact rr4_start c1_0 c1_1 c1_2 c1_3 | exact rr4_drew (by assumption) | exact rr4_keep (by omega) (by omega) (by omega) (by omega) hb (by assumption) | exact rr4_store (by omega) (by omega) (by omega) (by omega) (by omega) (by assumption) | fail)
        clear hK Kc
        refine step_read 5 21 rfl rfl (by kernel_rfl) (by kernel_rfl) (by kernel_rfl) (fun _ _ _ h => h) (by rfl) (v := ?_) (fun w hSw => ?_) (by assumption) ?_; rotate_left; (focus ((try dsimp only at hSw); go_simp; first | done | exact rfl)); simp only [List.set]
        refine step_read 6 27 rfl rfl (by kernel_rfl) (by kernel_rfl) (by kernel_rfl) (fun _ _ _ h => h) (by rfl) (v := ?_) (fun w hSw => ?_) (by assumption) ?_; rotate_left; (focus ((try dsimp only at hSw); go_simp; first | done | exact rfl)); simp only [List.set]
        refine step_read 7 28 rfl rfl (by kernel_rfl) (by kernel_rfl) (by kernel_rfl) (fun _ _ _ h => h) (by rfl) (v := ?_) (fun w hSw => ?_) (by assumption) ?_; rotate_left; (focus ((try dsimp only at hSw); go_simp; first | done | exact rfl)); simp only [List.set]
        refine wpAnyH_ready (rs := [9]) (by kernel_rfl) (by simp) ?_
        refine AllReadyH.cons rfl (fun Kc hK => ?_) (AllReadyH.nil)
        go_simp
        refine at_world (fun ws12 hwa => ?_)
        have hBR := BoxR.mk' hwa rq (base := v1) (by have hq := (rr4_out (by assumption)).1; omega) (by omega) hbb (by omega) (by omega) bc (rr4_out (by assumption)).2
        have hSn :  ws12.cell? ⟨w.heap.size, 0, none⟩ = some (.slice ad n cp) ∧ ws12.cell? ⟨w.heap.size + 1, 0, none⟩ = some (.int .i64 z0) ∧ ws12.cell? ⟨w.heap.size + 1, 1, none⟩ = some (.int .i64 z1) ∧ ws12.cell? ⟨w.heap.size + 1, 2, none⟩ = some (.int .i64 z2) ∧ v1.heap.size ≤ ws12.heap.size ∧ Below v1.heap.size v1 ws12 := by rw [hwa]; exact rr4_store (by omega) (by omega) (by omega) (by omega) hbb (by assumption)
        clear hwa
        refine hK.out _ _ ?_ (fun hHeld => ?_)
        · (first | assumption | exact rr4_start c1_0 c1_1 c1_2 c1_3 | exact rr4_drew (by assumption) | exact rr4_keep (by omega) (by omega) (by omega) (by omega) hb (by assumption) | exact rr4_store (by omega) (by omega) (by omega) (by omega) (by omega) (by assumption) | fail)
        clear hK Kc
        refine step_read 10 7 rfl rfl (by kernel_rfl) (by kernel_rfl) (by kernel_rfl) (fun _ _ _ h => h) (by rfl) (v := ?_) (fun w hSw => ?_) (by assumption) ?_; rotate_left; (focus ((try dsimp only at hSw); go_simp; first | done | exact rfl)); simp only [List.set]
        refine wpAnyH_done (by kernel_rfl) ?_ _
        go_wp2_with fail
        go_meet
        exact ⟨_, _, _, _, _, rfl, rfl, Lib.hid hBR⟩
    · go_simp
      refine at_world (fun wa13 hwa => ?_)
      have hb : Below v1.heap.size v1 wa13 := by rw [hwa]; first | exact ((Below.refl _ _).alloc (Nat.le_refl _) _).drew | exact (Below.refl _ _).drew.alloc (by first | exact Nat.le_refl _ | simp) _
      have HSB := (⟨c1_0, c1_1, c1_2, c1_3, Nat.le_refl _, Below.refl _ _⟩ :  v1.cell? ⟨w.heap.size, 0, none⟩ = some (.slice ad n cp) ∧ v1.cell? ⟨w.heap.size + 1, 0, none⟩ = some (.int .i64 z0) ∧ v1.cell? ⟨w.heap.size + 1, 1, none⟩ = some (.int .i64 z1) ∧ v1.cell? ⟨w.heap.size + 1, 2, none⟩ = some (.int .i64 z2) ∧ v1.heap.size ≤ v1.heap.size ∧ Below v1.heap.size v1 v1)
      have bc : wa13.cell? ⟨v1.heap.size, 0, none⟩ = some (.slice none 0 0) := by rw [hwa]; simp
      have bf : wa13.frozen? ⟨v1.heap.size, 0, none⟩ = false := by rw [hwa]; simp [go_sem]
      have hbz : v1.heap.size < wa13.heap.size := by rw [hwa]; simp
      have hzz := hb.size
      have hbb : v1.heap.size ≤ v1.heap.size := by first | exact Nat.le_refl _ | (have hq := (rr4_out (by assumption)).1; omega)
      have hSn :  wa13.cell? ⟨w.heap.size, 0, none⟩ = some (.slice ad n cp) ∧ wa13.cell? ⟨w.heap.size + 1, 0, none⟩ = some (.int .i64 z0) ∧ wa13.cell? ⟨w.heap.size + 1, 1, none⟩ = some (.int .i64 z1) ∧ wa13.cell? ⟨w.heap.size + 1, 2, none⟩ = some (.int .i64 z2) ∧ v1.heap.size ≤ wa13.heap.size ∧ Below v1.heap.size v1 wa13 := by rw [hwa]; first | exact rr4_drew (rr4_box (by omega) (by omega) (by omega) (by omega) HSB) | exact rr4_box (by omega) (by omega) (by omega) (by omega) (by assumption)
      clear hwa
      clear HSB
      refine hK.out _ _ ?_ (fun hHeld => ?_)
      · (first | assumption | exact rr4_start c1_0 c1_1 c1_2 c1_3 | exact rr4_drew (by assumption) | exact rr4_keep (by omega) (by omega) (by omega) (by omega) hb (by assumption) | exact rr4_store (by omega) (by omega) (by omega) (by omega) (by omega) (by assumption) | fail)
      clear hK Kc
      refine wpAnyH_ready (rs := [1]) (by kernel_rfl) (by simp) ?_
      refine AllReadyH.cons rfl (fun Kc hK => ?_) (AllReadyH.nil)
      go_simp
      go_at_call 13
      refine (toTable_any _ n Z _ (HA.out.below (B1.out.trans ((rr4_out (by assumption)).2.mono (by omega)))) hn).mono ?_
      rintro e wr14 ⟨yv, rfl, ry, hb⟩
      have hzz := hb.size
      replace bc : wr14.cell? ⟨v1.heap.size, 0, none⟩ = some (.slice none 0 0) := by rw [hb.cell (p := ⟨v1.heap.size, 0, none⟩) hbz]; exact bc
      replace bf : wr14.frozen? ⟨v1.heap.size, 0, none⟩ = false := by rw [hb.frozen (p := ⟨v1.heap.size, 0, none⟩) hbz]; exact bf
      replace hbz : v1.heap.size < wr14.heap.size := Nat.lt_of_lt_of_le hbz hb.size
      refine hK.out _ _ ?_ (fun hHeld => ?_)
      · (first | assumption | exact rr4_start c1_0 c1_1 c1_2 c1_3 | exact rr4_drew (by assumption) | exact rr4_keep (by omega) (by omega) (by omega) (by omega) hb (by assumption) | exact rr4_store (by omega) (by omega) (by omega) (by omega) (by omega) (by assumption) | fail)
      clear hK Kc
      refine wpAnyH_ready (rs := [3]) (by kernel_rfl) (by simp) ?_
      refine AllReadyH.cons rfl (fun Kc hK => ?_) (AllReadyH.nil)
      go_simp
      go_at_call 20
      refine (toRoute_any z0 z1 z2 _).mono ?_
      rintro e wr15 ⟨rfl, hb⟩
      have hzz := hb.size
      replace ry := ry.below hb (by first | exact Nat.le_refl _ | omega)
      replace bc : wr15.cell? ⟨v1.heap.size, 0, none⟩ = some (.slice none 0 0) := by rw [hb.cell (p := ⟨v1.heap.size, 0, none⟩) hbz]; exact bc
      replace bf : wr15.frozen? ⟨v1.heap.size, 0, none⟩ = false := by rw [hb.frozen (p := ⟨v1.heap.size, 0, none⟩) hbz]; exact bf
      replace hbz : v1.heap.size < wr15.heap.size := Nat.lt_of_lt_of_le hbz hb.size
      refine hK.out _ _ ?_ (fun hHeld => ?_)
      · (first | assumption | exact rr4_start c1_0 c1_1 c1_2 c1_3 | exact rr4_drew (by assumption) | exact rr4_keep (by omega) (by omega) (by omega) (by omega) hb (by assumption) | exact rr4_store (by omega) (by omega) (by omega) (by omega) (by omega) (by assumption) | fail)
      clear hK Kc
      refine wpAnyH_ready (rs := [4]) (by kernel_rfl) (by simp) ?_
      refine AllReadyH.cons rfl (fun Kc hK => ?_) (AllReadyH.nil)
      go_simp
      go_at_call 19
      refine (Hs.out _ _ _ _ ry (by first | exact Nat.le_refl _ | omega)).mono ?_
      rintro e wr16 ⟨qv, rfl, rq, hb⟩
      have hzz := hb.size
      obtain ⟨qa, qc, rfl⟩ := rq.slice
      have hbz0 := hbz
      replace ry := ry.below hb (by first | exact Nat.le_refl _ | omega)
      replace bc : wr16.cell? ⟨v1.heap.size, 0, none⟩ = some (.slice none 0 0) := by rw [hb.cell (p := ⟨v1.heap.size, 0, none⟩) hbz]; exact bc
      replace bf : wr16.frozen? ⟨v1.heap.size, 0, none⟩ = false := by rw [hb.frozen (p := ⟨v1.heap.size, 0, none⟩) hbz]; exact bf
      replace hbz : v1.heap.size < wr16.heap.size := Nat.lt_of_lt_of_le hbz hb.size
      refine hK.out _ _ ?_ (fun hHeld => ?_)
      · (first | assumption | exact rr4_start c1_0 c1_1 c1_2 c1_3 | exact rr4_drew (by assumption) | exact rr4_keep (by omega) (by omega) (by omega) (by omega) hb (by assumption) | exact rr4_store (by omega) (by omega) (by omega) (by omega) (by omega) (by assumption) | fail)
      clear hK Kc
      refine step_read 5 21 rfl rfl (by kernel_rfl) (by kernel_rfl) (by kernel_rfl) (fun _ _ _ h => h) (by rfl) (v := ?_) (fun w hSw => ?_) (by assumption) ?_; rotate_left; (focus ((try dsimp only at hSw); go_simp; first | done | exact rfl)); simp only [List.set]
      refine step_read 6 27 rfl rfl (by kernel_rfl) (by kernel_rfl) (by kernel_rfl) (fun _ _ _ h => h) (by rfl) (v := ?_) (fun w hSw => ?_) (by assumption) ?_; rotate_left; (focus ((try dsimp only at hSw); go_simp; first | done | exact rfl)); simp only [List.set]
      refine step_read 7 28 rfl rfl (by kernel_rfl) (by kernel_rfl) (by kernel_rfl) (fun _ _ _ h => h) (by rfl) (v := ?_) (fun w hSw => ?_) (by assumption) ?_; rotate_left; (focus ((try dsimp only at hSw); go_simp; first | done | exact rfl)); simp only [List.set]
      refine wpAnyH_ready (rs := [9]) (by kernel_rfl) (by simp) ?_
      refine AllReadyH.cons rfl (fun Kc hK => ?_) (AllReadyH.nil)
      go_simp
      refine at_world (fun ws17 hwa => ?_)
      have hBR := BoxR.mk' hwa rq (base := v1) (by have hq := (rr4_out (by assumption)).1; omega) (by omega) hbb (by omega) (by omega) bc (rr4_out (by assumption)).2
      have hSn :  ws17.cell? ⟨w.heap.size, 0, none⟩ = some (.slice ad n cp) ∧ ws17.cell? ⟨w.heap.size + 1, 0, none⟩ = some (.int .i64 z0) ∧ ws17.cell? ⟨w.heap.size + 1, 1, none⟩ = some (.int .i64 z1) ∧ ws17.cell? ⟨w.heap.size + 1, 2, none⟩ = some (.int .i64 z2) ∧ v1.heap.size ≤ ws17.heap.size ∧ Below v1.heap.size v1 ws17 := by rw [hwa]; exact rr4_store (by omega) (by omega) (by omega) (by omega) hbb (by assumption)
      clear hwa
      refine hK.out _ _ ?_ (fun hHeld => ?_)
      · (first | assumption | exact rr4_start c1_0 c1_1 c1_2 c1_3 | exact rr4_drew (by assumption) | exact rr4_keep (by omega) (by omega) (by omega) (by omega) hb (by assumption) | exact rr4_store (by omega) (by omega) (by omega) (by omega) (by omega) (by assumption) | fail)
      clear hK Kc
      refine step_read 10 7 rfl rfl (by kernel_rfl) (by kernel_rfl) (by kernel_rfl) (fun _ _ _ h => h) (by rfl) (v := ?_) (fun w hSw => ?_) (by assumption) ?_; rotate_left; (focus ((try dsimp only at hSw); go_simp; first | done | exact rfl)); simp only [List.set]
      refine wpAnyH_done (by kernel_rfl) ?_ _
      go_wp2_with fail
      go_meet
      exact ⟨_, _, _, _, _, rfl, rfl, Lib.hid hBR⟩
  case rest =>
    obtain ⟨xW, loW, hiW, vaW, vcW, rfl, rfl, hBR⟩ := hcut
    obtain ⟨v2, rfl⟩ : ∃ x, x = wc := ⟨_, rfl⟩
    obtain ⟨br, b1, b2, b3, b4, b5, b6, hb2⟩ := hBR.out
    clear hBR
    have sz2 : v1.heap.size ≤ v2.heap.size := hb2.size
    have st2 : Below v1.heap.size v1 v2 := hb2
    have c2_0 : v2.cell? ⟨w.heap.size, 0, none⟩ = some (.slice ad n cp) := by rw [(bcell st2).1 _ _ (by omega)]; exact c1_0
    have c2_1 : v2.cell? ⟨w.heap.size + 1, 0, none⟩ = some (.int .i64 z0) := by rw [(bcell st2).1 _ _ (by omega)]; exact c1_1
    have c2_2 : v2.cell? ⟨w.heap.size + 1, 1, none⟩ = some (.int .i64 z1) := by rw [(bcell st2).1 _ _ (by omega)]; exact c1_2
    have c2_3 : v2.cell? ⟨w.heap.size + 1, 2, none⟩ = some (.int .i64 z2) := by rw [(bcell st2).1 _ _ (by omega)]; exact c1_3
    have B2 : Hid (Below w.heap.size w v2) := B1.out.trans (st2.mono (by omega))
    have R2_0 : Hid (Row 3 v2 (loW) (hiW) (.slice vaW m vcW) m ZR) := br
    have d2_0 : w.heap.size < v2.heap.size := by omega
    have e2_0 : w.heap.size ≠ v2.heap.size := by omega
    have d2_1 : w.heap.size + 1 < v2.heap.size := by omega
    have e2_1 : w.heap.size + 1 ≠ v2.heap.size := by omega
    clear d1_0 e1_0 d1_1 e1_1 c1_0 c1_1 c1_2 c1_3 B1 st2 br hb2
    have cbW : v2.cell? ⟨(xW), 0, none⟩ = some (.slice vaW m vcW) := b6
    clear b6
    have ddW : xW < v2.heap.size := b4
    have eeW : xW ≠ v2.heap.size := by omega
    go_wp2_with fail
    go_at_call 13
    refine (toTable_any _ n Z _ (HA.out.below B2.out) hn).mono ?_
    rintro e v3 ⟨x8, rfl, hr, hb3⟩
    have sz3 : v2.heap.size ≤ v3.heap.size := hb3.size
    have st3 : Below v2.heap.size v2 v3 := hb3
    have c3_0 : v3.cell? ⟨w.heap.size, 0, none⟩ = some (.slice ad n cp) := by rw [(bcell st3).1 _ _ (by omega)]; exact c2_0
    have c3_1 : v3.cell? ⟨w.heap.size + 1, 0, none⟩ = some (.int .i64 z0) := by rw [(bcell st3).1 _ _ (by omega)]; exact c2_1
    have c3_2 : v3.cell? ⟨w.heap.size + 1, 1, none⟩ = some (.int .i64 z1) := by rw [(bcell st3).1 _ _ (by omega)]; exact c2_2
    have c3_3 : v3.cell? ⟨w.heap.size + 1, 2, none⟩ = some (.int .i64 z2) := by rw [(bcell st3).1 _ _ (by omega)]; exact c2_3
    have c3_4 : v3.cell? ⟨(xW), 0, none⟩ = some (.slice vaW m vcW) := by rw [(bcell st3).1 _ _ (by omega)]; exact cbW
    have B3 : Hid (Below w.heap.size w v3) := B2.out.trans (st3.mono (by omega))
    have R3_0 : Hid (Row 3 v3 (loW) (hiW) (.slice vaW m vcW) m ZR) := R2_0.out.below st3 (by omega)
    have R3_1 : Hid (Row 3 v3 (v2.heap.size) (v3.heap.size) x8 n (zs Z n 3)) := hr
    have d3_0 : w.heap.size < v3.heap.size := by omega
    have e3_0 : w.heap.size ≠ v3.heap.size := by omega
    have d3_1 : w.heap.size + 1 < v3.heap.size := by omega
    have e3_1 : w.heap.size + 1 ≠ v3.heap.size := by omega
    have d3_2 : (xW) < v3.heap.size := by omega
    have e3_2 : (xW) ≠ v3.heap.size := by omega
    clear d2_0 e2_0 d2_1 e2_1 ddW eeW c2_0 c2_1 c2_2 c2_3 cbW B2 st3 R2_0 hr hb3
    obtain ⟨x8a, x8c, rfl⟩ := R3_1.out.slice
    go_upto_region 7 with fail
    obtain ⟨q4, hq4⟩ : ∃ q, q = (v3.alloc (.cells #[.slice x8a n x8c] 30)) := ⟨_, rfl⟩
    have hb4 : Below v3.heap.size v3 q4 := by rw [hq4]; go_grown
    have sz4 : v3.heap.size + 1 ≤ q4.heap.size := by rw [hq4]; simp
    have c4_0 : q4.cell? ⟨w.heap.size, 0, none⟩ = some (.slice ad n cp) := by rw [(bcell hb4).1 _ _ (by omega)]; exact c3_0
    have c4_1 : q4.cell? ⟨w.heap.size + 1, 0, none⟩ = some (.int .i64 z0) := by rw [(bcell hb4).1 _ _ (by omega)]; exact c3_1
    have c4_2 : q4.cell? ⟨w.heap.size + 1, 1, none⟩ = some (.int .i64 z1) := by rw [(bcell hb4).1 _ _ (by omega)]; exact c3_2
    have c4_3 : q4.cell? ⟨w.heap.size + 1, 2, none⟩ = some (.int .i64 z2) := by rw [(bcell hb4).1 _ _ (by omega)]; exact c3_3
    have c4_4 : q4.cell? ⟨(xW), 0, none⟩ = some (.slice vaW m vcW) := by rw [(bcell hb4).1 _ _ (by omega)]; exact c3_4
    have c4_5 : q4.cell? ⟨v3.heap.size, 0, none⟩ = some (.slice x8a n x8c) := by rw [hq4, new_at (by simp)]; rfl
    have B4 : Hid (Below w.heap.size w q4) := Lib.hid (B3.out.trans (hb4.mono (by omega)))
    have R4_0 : Hid (Row 3 q4 (loW) (hiW) (.slice vaW m vcW) m ZR) := Lib.hid (R3_0.out.below hb4 (by omega))
    have R4_1 : Hid (Row 3 q4 (v2.heap.size) (v3.heap.size) (.slice x8a n x8c) n (zs Z n 3)) := Lib.hid (R3_1.out.below hb4 (by omega))
    rw [← hq4]
    have d4_0 : w.heap.size < q4.heap.size := by omega
    have e4_0 : w.heap.size ≠ q4.heap.size := by omega
    have d4_1 : w.heap.size + 1 < q4.heap.size := by omega
    have e4_1 : w.heap.size + 1 ≠ q4.heap.size := by omega
    have d4_2 : (xW) < q4.heap.size := by omega
    have e4_2 : (xW) ≠ q4.heap.size := by omega
    have d4_3 : v3.heap.size < q4.heap.size := by omega
    have e4_3 : v3.heap.size ≠ q4.heap.size := by omega
    clear hq4 hb4 d3_0 e3_0 d3_1 e3_1 d3_2 e3_2 c3_0 c3_1 c3_2 c3_3 c3_4 B3 R3_0 R3_1
    go_upto_region 7 with fail
    go_cut [9, 10] (fun s9 s10 wx => ∃ (bx lo hi : Nat) (va : Option Addr) (vc : Nat), s9 = .pointer (some ⟨bx, 0, none⟩) ∧ s10 = .bool b ∧ Hid (BoxR q4 wx bx lo hi (.slice va m vc) m ZR))
    case first =>
      go_wp2_with fail
      refine wp_region_held_drew (S := (fun w' => w'.cell? ⟨v3.heap.size, 0, none⟩ = some (.slice x8a n x8c) ∧ w'.cell? ⟨w.heap.size + 1, 0, none⟩ = some (.int .i64 z0) ∧ w'.cell? ⟨w.heap.size + 1, 1, none⟩ = some (.int .i64 z1) ∧ w'.cell? ⟨w.heap.size + 1, 2, none⟩ = some (.int .i64 z2) ∧ q4.heap.size ≤ w'.heap.size ∧ Below q4.heap.size q4 w')) (by kernel_rfl) ?_ (fun hHeld => ?_)
      · (first | assumption | exact rr4_start c4_5 c4_1 c4_2 c4_3 | exact rr4_drew (by assumption) | exact rr4_keep (by omega) (by omega) (by omega) (by omega) hb (by assumption) | exact rr4_store (by omega) (by omega) (by omega) (by omega) (by omega) (by assumption) | fail)
      refine step_read 0 32 rfl rfl (by kernel_rfl) (by kernel_rfl) (by kernel_rfl) (fun _ _ _ h => h) (by rfl) (v := ?_) (fun w hSw => ?_) (by assumption) ?_; rotate_left; (focus ((try dsimp only at hSw); go_simp; first | done | exact rfl)); simp only [List.set]
      refine step_read 1 33 rfl rfl (by kernel_rfl) (by kernel_rfl) (by kernel_rfl) (fun _ _ _ h => h) (by rfl) (v := ?_) (fun w hSw => ?_) (by assumption) ?_; rotate_left; (focus ((try dsimp only at hSw); go_simp; first | done | exact rfl)); simp only [List.set]
      refine wpAnyH_ready (rs := [2, 7]) (by kernel_rfl) (by simp) ?_
      refine AllReadyH.cons rfl (fun Kc hK => ?_) (AllReadyH.cons rfl (fun Kc hK => ?_) (AllReadyH.nil))
      · go_simp
        go_at_call 20
        refine (toRoute_any z0 z1 z2 _).mono ?_
        rintro e wr1 ⟨rfl, hb⟩
        have hzz := hb.size
        refine hK.out _ _ ?_ (fun hHeld => ?_)
        · (first | assumption | exact rr4_start c4_5 c4_1 c4_2 c4_3 | exact rr4_drew (by assumption) | exact rr4_keep (by omega) (by omega) (by omega) (by omega) hb (by assumption) | exact rr4_store (by omega) (by omega) (by omega) (by omega) (by omega) (by assumption) | fail)
        clear hK Kc
        refine wpAnyH_ready (rs := [3, 7]) (by kernel_rfl) (by simp) ?_
        refine AllReadyH.cons rfl (fun Kc hK => ?_) (AllReadyH.cons rfl (fun Kc hK => ?_) (AllReadyH.nil))
        · go_simp
          go_at_call 21
          refine (Hi.out _ _ _ _ (R4_1.out.below (rr4_out (by assumption)).2 (by omega)) (by have hq := (rr4_out (by assumption)).1; omega)).mono ?_
          rintro e wr2 ⟨qv, rfl, rq, hb⟩
          have hzz := hb.size
          obtain ⟨qa, qc, rfl⟩ := rq.slice
          refine hK.out _ _ ?_ (fun hHeld => ?_)
          · (first | assumption | exact rr4_start c4_5 c4_1 c4_2 c4_3 | exact rr4_drew (by assumption) | exact rr4_keep (by omega) (by omega) (by omega) (by omega) hb (by assumption) | exact rr4_store (by omega) (by omega) (by omega) (by omega) (by omega) (by assumption) | fail)
          clear hK Kc
          refine step_read 4 31 rfl rfl (by kernel_rfl) (by kernel_rfl) (by kernel_rfl) (fun _ _ _ h => h) (by rfl) (v := ?_) (fun w hSw => ?_) (by assumption) ?_; rotate_left; (focus ((try dsimp only at hSw); go_simp; first | done | exact rfl)); simp only [List.set]
          refine step_read 5 36 rfl rfl (by kernel_rfl) (by kernel_rfl) (by kernel_rfl) (fun _ _ _ h => h) (by rfl) (v := ?_) (fun w hSw => ?_) (by assumption) ?_; rotate_left; (focus ((try dsimp only at hSw); go_simp; first | done | exact rfl)); simp only [List.set]
          refine step_read 6 37 rfl rfl (by kernel_rfl) (by kernel_rfl) (by kernel_rfl) (fun _ _ _ h => h) (by rfl) (v := ?_) (fun w hSw => ?_) (by assumption) ?_; rotate_left; (focus ((try dsimp only at hSw); go_simp; first | done | exact rfl)); simp only [List.set]
          refine wpAnyH_ready (rs := [7]) (by kernel_rfl) (by simp) ?_
          refine AllReadyH.cons rfl (fun Kc hK => ?_) (AllReadyH.nil)
          go_simp
          refine at_world (fun wa3 hwa => ?_)
          have hb : Below wr2.heap.size wr2 wa3 := by rw [hwa]; exact (Below.refl _ _).alloc (Nat.le_refl _) _
          have bc : wa3.cell? ⟨wr2.heap.size, 0, none⟩ = some (.slice none 0 0) := by rw [hwa]; simp
          have bf : wa3.frozen? ⟨wr2.heap.size, 0, none⟩ = false := by rw [hwa]; simp [go_sem]
          have hbz : wr2.heap.size < wa3.heap.size := by rw [hwa]; simp
          have hzz := hb.size
          replace rq := rq.below hb (by first | exact Nat.le_refl _ | omega)
          have hbb : q4.heap.size ≤ wr2.heap.size := by first | exact Nat.le_refl _ | (have hq := (rr4_out (by assumption)).1; omega)
          have hSn :  wa3.cell? ⟨v3.heap.size, 0, none⟩ = some (.slice x8a n x8c) ∧ wa3.cell? ⟨w.heap.size + 1, 0, none⟩ = some (.int .i64 z0) ∧ wa3.cell? ⟨w.heap.size + 1, 1, none⟩ = some (.int .i64 z1) ∧ wa3.cell? ⟨w.heap.size + 1, 2, none⟩ = some (.int .i64 z2) ∧ q4.heap.size ≤ wa3.heap.size ∧ Below q4.heap.size q4 wa3 := by rw [hwa]; first | exact rr4_drew (rr4_box (by omega) (by omega) (by omega) (by omega) HSB) | exact rr4_box (by omega) (by omega) (by omega) (by omega) (by assumption)
          clear hwa
          refine hK.out _ _ ?_ (fun hHeld => ?_)
          · (first | assumption | exact rr4_start c4_5 c4_1 c4_2 c4_3 | exact rr4_drew (by assumption) | exact rr4_keep (by omega) (by omega) (by omega) (by omega) hb (by assumption) | exact rr4_store (by omega) (by omega) (by omega) (by omega) (by omega) (by assumption) | fail)
          clear hK Kc
          refine wpAnyH_ready (rs := [8]) (by kernel_rfl) (by simp) ?_
          refine AllReadyH.cons rfl (fun Kc hK => ?_) (AllReadyH.nil)
          go_simp
          refine at_world (fun ws4 hwa => ?_)
          have hBR := BoxR.mk' hwa rq (base := q4) (by have hq := (rr4_out (by assumption)).1; omega) (by omega) hbb (by omega) (by omega) bc (rr4_out (by assumption)).2
          have hSn :  ws4.cell? ⟨v3.heap.size, 0, none⟩ = some (.slice x8a n x8c) ∧ ws4.cell? ⟨w.heap.size + 1, 0, none⟩ = some (.int .i64 z0) ∧ ws4.cell? ⟨w.heap.size + 1, 1, none⟩ = some (.int .i64 z1) ∧ ws4.cell? ⟨w.heap.size + 1, 2, none⟩ = some (.int .i64 z2) ∧ q4.heap.size ≤ ws4.heap.size ∧ Below q4.heap.size q4 ws4 := by rw [hwa]; exact rr4_store (by omega) (by omega) (by omega) (by omega) hbb (by assumption)
          clear hwa
          refine hK.out _ _ ?_ (fun hHeld => ?_)
          · (first | assumption | exact rr4_start c4_5 c4_1 c4_2 c4_3 | exact rr4_drew (by assumption) | exact rr4_keep (by omega) (by omega) (by omega) (by omega) hb (by assumption) | exact rr4_store (by omega) (by omega) (by omega) (by omega) (by omega) (by assumption) | fail)
          clear hK Kc
          refine step_read 9 10 rfl rfl (by kernel_rfl) (by kernel_rfl) (by kernel_rfl) (fun _ _ _ h => h) (by rfl) (v := ?_) (fun w hSw => ?_) (by assumption) ?_; rotate_left; (focus ((try dsimp only at hSw); go_simp; first | done | exact rfl)); simp only [List.set]
          refine wpAnyH_done (by kernel_rfl) ?_ _
          go_wp2_with fail
          go_meet
          exact ⟨_, _, _, _, _, rfl, rfl, Lib.hid hBR⟩
        · go_simp
          refine at_world (fun wa5 hwa => ?_)
          have hb : Below wr1.heap.size wr1 wa5 := by rw [hwa]; exact (Below.refl _ _).alloc (Nat.le_refl _) _
          have bc : wa5.cell? ⟨wr1.heap.size, 0, none⟩ = some (.slice none 0 0) := by rw [hwa]; simp
          have bf : wa5.frozen? ⟨wr1.heap.size, 0, none⟩ = false := by rw [hwa]; simp [go_sem]
          have hbz : wr1.heap.size < wa5.heap.size := by rw [hwa]; simp
          have hzz := hb.size
          have hbb : q4.heap.size ≤ wr1.heap.size := by first | exact Nat.le_refl _ | (have hq := (rr4_out (by assumption)).1; omega)
          have hSn :  wa5.cell? ⟨v3.heap.size, 0, none⟩ = some (.slice x8a n x8c) ∧ wa5.cell? ⟨w.heap.size + 1, 0, none⟩ = some (.int .i64 z0) ∧ wa5.cell? ⟨w.heap.size + 1, 1, none⟩ = some (.int .i64 z1) ∧ wa5.cell? ⟨w.heap.size + 1, 2, none⟩ = some (.int .i64 z2) ∧ q4.heap.size ≤ wa5.heap.size ∧ Below q4.heap.size q4 wa5 := by rw [hwa]; first | exact rr4_drew (rr4_box (by omega) (by omega) (by omega) (by omega) HSB) | exact rr4_box (by omega) (by omega) (by omega) (by omega) (by assumption)
          clear hwa
          refine hK.out _ _ ?_ (fun hHeld => ?_)
          · (first | assumption | exact rr4_start c4_5 c4_1 c4_2 c4_3 | exact rr4_drew (by assumption) | exact rr4_keep (by omega) (by omega) (by omega) (by omega) hb (by assumption) | exact rr4_store (by omega) (by omega) (by omega) (by omega) (by omega) (by assumption) | fail)
          clear hK Kc
          refine wpAnyH_ready (rs := [3]) (by kernel_rfl) (by simp) ?_
          refine AllReadyH.cons rfl (fun Kc hK => ?_) (AllReadyH.nil)
          go_simp
          go_at_call 21
          refine (Hi.out _ _ _ _ (R4_1.out.below (rr4_out (by assumption)).2 (by omega)) (by have hq := (rr4_out (by assumption)).1; omega)).mono ?_
          rintro e wr6 ⟨qv, rfl, rq, hb⟩
          have hzz := hb.size
          obtain ⟨qa, qc, rfl⟩ := rq.slice
          have hbz0 := hbz
          replace bc : wr6.cell? ⟨wr1.heap.size, 0, none⟩ = some (.slice none 0 0) := by rw [hb.cell (p := ⟨wr1.heap.size, 0, none⟩) hbz]; exact bc
          replace bf : wr6.frozen? ⟨wr1.heap.size, 0, none⟩ = false := by rw [hb.frozen (p := ⟨wr1.heap.size, 0, none⟩) hbz]; exact bf
          replace hbz : wr1.heap.size < wr6.heap.size := Nat.lt_of_lt_of_le hbz hb.size
          refine hK.out _ _ ?_ (fun hHeld => ?_)
          · (first | assumption | exact rr4_start c4_5 c4_1 c4_2 c4_3 | exact rr4_drew (by assumption) | exact rr4_keep (by omega) (by omega) (by omega) (by omega) hb (by assumption) | exact rr4_store (by omega) (by omega) (by omega) (by omega) (by omega) (by assumption) | fail)
          clear hK Kc
          refine step_read 4 31 rfl rfl (by kernel_rfl) (by kernel_rfl) (by kernel_rfl) (fun _ _ _ h => h) (by rfl) (v := ?_) (fun w hSw => ?_) (by assumption) ?_; rotate_left; (focus ((try dsimp only at hSw); go_simp; first | done | exact rfl)); simp only [List.set]
          refine step_read 5 36 rfl rfl (by kernel_rfl) (by kernel_rfl) (by kernel_rfl) (fun _ _ _ h => h) (by rfl) (v := ?_) (fun w hSw => ?_) (by assumption) ?_; rotate_left; (focus ((try dsimp only at hSw); go_simp; first | done | exact rfl)); simp only [List.set]
          refine step_read 6 37 rfl rfl (by kernel_rfl) (by kernel_rfl) (by kernel_rfl) (fun _ _ _ h => h) (by rfl) (v := ?_) (fun w hSw => ?_) (by assumption) ?_; rotate_left; (focus ((try dsimp only at hSw); go_simp; first | done | exact rfl)); simp only [List.set]
          refine wpAnyH_ready (rs := [8]) (by kernel_rfl) (by simp) ?_
          refine AllReadyH.cons rfl (fun Kc hK => ?_) (AllReadyH.nil)
          go_simp
          refine at_world (fun ws7 hwa => ?_)
          have hBR := BoxR.mk' hwa rq (base := q4) (by have hq := (rr4_out (by assumption)).1; omega) (by omega) hbb (by omega) (by omega) bc (rr4_out (by assumption)).2
          have hSn :  ws7.cell? ⟨v3.heap.size, 0, none⟩ = some (.slice x8a n x8c) ∧ ws7.cell? ⟨w.heap.size + 1, 0, none⟩ = some (.int .i64 z0) ∧ ws7.cell? ⟨w.heap.size + 1, 1, none⟩ = some (.int .i64 z1) ∧ ws7.cell? ⟨w.heap.size + 1, 2, none⟩ = some (.int .i64 z2) ∧ q4.heap.size ≤ ws7.heap.size ∧ Below q4.heap.size q4 ws7 := by rw [hwa]; exact rr4_store (by omega) (by omega) (by omega) (by omega) hbb (by assumption)
          clear hwa
          refine hK.out _ _ ?_ (fun hHeld => ?_)
          · (first | assumption | exact rr4_start c4_5 c4_1 c4_2 c4_3 | exact rr4_drew (by assumption) | exact rr4_keep (by omega) (by omega) (by omega) (by omega) hb (by assumption) | exact rr4_store (by omega) (by omega) (by omega) (by omega) (by omega) (by assumption) | fail)
          clear hK Kc
          refine step_read 9 10 rfl rfl (by kernel_rfl) (by kernel_rfl) (by kernel_rfl) (fun _ _ _ h => h) (by rfl) (v := ?_) (fun w hSw => ?_) (by assumption) ?_; rotate_left; (focus ((try dsimp only at hSw); go_simp; first | done | exact rfl)); simp only [List.set]
          refine wpAnyH_done (by kernel_rfl) ?_ _
          go_wp2_with fail
          go_meet
          exact ⟨_, _, _, _, _, rfl, rfl, Lib.hid hBR⟩
      · go_simp
        refine at_world (fun wa8 hwa => ?_)
        have hb : Below q4.heap.size q4 wa8 := by rw [hwa]; first | exact ((Below.refl _ _).alloc (Nat.le_refl _) _).drew | exact (Below.refl _ _).drew.alloc (by first | exact Nat.le_refl _ | simp) _
        have HSB := (⟨c4_5, c4_1, c4_2, c4_3, Nat.le_refl _, Below.refl _ _⟩ :  q4.cell? ⟨v3.heap.size, 0, none⟩ = some (.slice x8a n x8c) ∧ q4.cell? ⟨w.heap.size + 1, 0, none⟩ = some (.int .i64 z0) ∧ q4.cell? ⟨w.heap.size + 1, 1, none⟩ = some (.int .i64 z1) ∧ q4.cell? ⟨w.heap.size + 1, 2, none⟩ = some (.int .i64 z2) ∧ q4.heap.size ≤ q4.heap.size ∧ Below q4.heap.size q4 q4)
        have bc : wa8.cell? ⟨q4.heap.size, 0, none⟩ = some (.slice none 0 0) := by rw [hwa]; simp
        have bf : wa8.frozen? ⟨q4.heap.size, 0, none⟩ = false := by rw [hwa]; simp [go_sem]
        have hbz : q4.heap.size < wa8.heap.size := by rw [hwa]; simp
        have hzz := hb.size
        have hbb : q4.heap.size ≤ q4.heap.size := by first | exact Nat.le_refl _ | (have hq := (rr4_out (by assumption)).1; omega)
        have hSn :  wa8.cell? ⟨v3.heap.size, 0, none⟩ = some (.slice x8a n x8c) ∧ wa8.cell? ⟨w.heap.size + 1, 0, none⟩ = some (.int .i64 z0) ∧ wa8.cell? ⟨w.heap.size + 1, 1, none⟩ = some (.int .i64 z1) ∧ wa8.cell? ⟨w.heap.size + 1, 2, none⟩ = some (.int .i64 z2) ∧ q4.heap.size ≤ wa8.heap.size ∧ Below q4.heap.size q4 wa8 := by rw [hwa]; first | exact rr4_drew (rr4_box (by omega) (by omega) (by omega) (by omega) HSB) | exact rr4_box (by omega) (by omega) (by omega) (by omega) (by assumption)
        clear hwa
        clear HSB
        refine hK.out _ _ ?_ (fun hHeld => ?_)
        · (first | assumption | exact rr4_start c4_5 c4_1 c4_2 c4_3 | exact rr4_drew (by assumption) | exact rr4_keep (by omega) (by omega) (by omega) (by omega) hb (by assumption) | exact rr4_store (by omega) (by omega) (by omega) (by omega) (by omega) (by assumption) | fail)
        clear hK Kc
        refine wpAnyH_ready (rs := [2]) (by kernel_rfl) (by simp) ?_
        refine AllReadyH.cons rfl (fun Kc hK => ?_) (AllReadyH.nil)
        go_simp
        go_at_call 20
        refine (toRoute_any z0 z1 z2 _).mono ?_
        rintro e wr9 ⟨rfl, hb⟩
        have hzz := hb.size
        replace bc : wr9.cell? ⟨q4.heap.size, 0, none⟩ = some (.slice none 0 0) := by rw [hb.cell (p := ⟨q4.heap.size, 0, none⟩) hbz]; exact bc
        replace bf : wr9.frozen? ⟨q4.heap.size, 0, none⟩ = false := by rw [hb.frozen (p := ⟨q4.heap.size, 0, none⟩) hbz]; exact bf
        replace hbz : q4.heap.size < wr9.heap.size := Nat.lt_of_lt_of_le hbz hb.size
        refine hK.out _ _ ?_ (fun hHeld => ?_)
        · (first | assumption | exact rr4_start c4_5 c4_1 c4_2 c4_3 | exact rr4_drew (by assumption) | exact rr4_keep (by omega) (by omega) (by omega) (by omega) hb (by assumption) | exact rr4_store (by omega) (by omega) (by omega) (by omega) (by omega) (by assumption) | fail)
        clear hK Kc
        refine wpAnyH_ready (rs := [3]) (by kernel_rfl) (by simp) ?_
        refine AllReadyH.cons rfl (fun Kc hK => ?_) (AllReadyH.nil)
        go_simp
        go_at_call 21
        refine (Hi.out _ _ _ _ (R4_1.out.below (rr4_out (by assumption)).2 (by omega)) (by have hq := (rr4_out (by assumption)).1; omega)).mono ?_
        rintro e wr10 ⟨qv, rfl, rq, hb⟩
        have hzz := hb.size
        obtain ⟨qa, qc, rfl⟩ := rq.slice
        have hbz0 := hbz
        replace bc : wr10.cell? ⟨q4.heap.size, 0, none⟩ = some (.slice none 0 0) := by rw [hb.cell (p := ⟨q4.heap.size, 0, none⟩) hbz]; exact bc
        replace bf : wr10.frozen? ⟨q4.heap.size, 0, none⟩ = false := by rw [hb.frozen (p := ⟨q4.heap.size, 0, none⟩) hbz]; exact bf
        replace hbz : q4.heap.size < wr10.heap.size := Nat.lt_of_lt_of_le hbz hb.size
        refine hK.out _ _ ?_ (fun hHeld => ?_)
        · (first | assumption | exact rr4_start c4_5 c4_1 c4_2 c4_3 | exact rr4_drew (by assumption) | exact rr4_keep (by omega) (by omega) (by omega) (by omega) hb (by assumption) | exact rr4_store (by omega) (by omega) (by omega) (by omega) (by omega) (by assumption) | fail)
        clear hK Kc
        refine step_read 4 31 rfl rfl (by kernel_rfl) (by kernel_rfl) (by kernel_rfl) (fun _ _ _ h => h) (by rfl) (v := ?_) (fun w hSw => ?_) (by assumption) ?_; rotate_left; (focus ((try dsimp only at hSw); go_simp; first | done | exact rfl)); simp only [List.set]
        refine step_read 5 36 rfl rfl (by kernel_rfl) (by kernel_rfl) (by kernel_rfl) (fun _ _ _ h => h) (by rfl) (v := ?_) (fun w hSw => ?_) (by assumption) ?_; rotate_left; (focus ((try dsimp only at hSw); go_simp; first | done | exact rfl)); simp only [List.set]
        refine step_read 6 37 rfl rfl (by kernel_rfl) (by kernel_rfl) (by kernel_rfl) (fun _ _ _ h => h) (by rfl) (v := ?_) (fun w hSw => ?_) (by assumption) ?_; rotate_left; (focus ((try dsimp only at hSw); go_simp; first | done | exact rfl)); simp only [List.set]
        refine wpAnyH_ready (rs := [8]) (by kernel_rfl) (by simp) ?_
        refine AllReadyH.cons rfl (fun Kc hK => ?_) (AllReadyH.nil)
        go_simp
        refine at_world (fun ws11 hwa => ?_)
        have hBR := BoxR.mk' hwa rq (base := q4) (by have hq := (rr4_out (by assumption)).1; omega) (by omega) hbb (by omega) (by omega) bc (rr4_out (by assumption)).2
        have hSn :  ws11.cell? ⟨v3.heap.size, 0, none⟩ = some (.slice x8a n x8c) ∧ ws11.cell? ⟨w.heap.size + 1, 0, none⟩ = some (.int .i64 z0) ∧ ws11.cell? ⟨w.heap.size + 1, 1, none⟩ = some (.int .i64 z1) ∧ ws11.cell? ⟨w.heap.size + 1, 2, none⟩ = some (.int .i64 z2) ∧ q4.heap.size ≤ ws11.heap.size ∧ Below q4.heap.size q4 ws11 := by rw [hwa]; exact rr4_store (by omega) (by omega) (by omega) (by omega) hbb (by assumption)
        clear hwa
        refine hK.out _ _ ?_ (fun hHeld => ?_)
        · (first | assumption | exact rr4_start c4_5 c4_1 c4_2 c4_3 | exact rr4_drew (by assumption) | exact rr4_keep (by omega) (by omega) (by omega) (by omega) hb (by assumption) | exact rr4_store (by omega) (by omega) (by omega) (by omega) (by omega) (by assumption) | fail)
        clear hK Kc
        refine step_read 9 10 rfl rfl (by kernel_rfl) (by kernel_rfl) (by kernel_rfl) (fun _ _ _ h => h) (by rfl) (v := ?_) (fun w hSw => ?_) (by assumption) ?_; rotate_left; (focus ((try dsimp only at hSw); go_simp; first | done | exact rfl)); simp only [List.set]
        refine wpAnyH_done (by kernel_rfl) ?_ _
        go_wp2_with fail
        go_meet
        exact ⟨_, _, _, _, _, rfl, rfl, Lib.hid hBR⟩
    case rest =>
      obtain ⟨xG, loG, hiG, vaG, vcG, rfl, rfl, hBR⟩ := hcut
      obtain ⟨v5, rfl⟩ : ∃ x, x = wc := ⟨_, rfl⟩
      obtain ⟨br, b1, b2, b3, b4, b5, b6, hb5⟩ := hBR.out
      clear hBR
      have sz5 : q4.heap.size ≤ v5.heap.size := hb5.size
      have st5 : Below q4.heap.size q4 v5 := hb5
      have c5_0 : v5.cell? ⟨w.heap.size, 0, none⟩ = some (.slice ad n cp) := by rw [(bcell st5).1 _ _ (by omega)]; exact c4_0
      have c5_1 : v5.cell? ⟨w.heap.size + 1, 0, none⟩ = some (.int .i64 z0) := by rw [(bcell st5).1 _ _ (by omega)]; exact c4_1
      have c5_2 : v5.cell? ⟨w.heap.size + 1, 1, none⟩ = some (.int .i64 z1) := by rw [(bcell st5).1 _ _ (by omega)]; exact c4_2
      have c5_3 : v5.cell? ⟨w.heap.size + 1, 2, none⟩ = some (.int .i64 z2) := by rw [(bcell st5).1 _ _ (by omega)]; exact c4_3
      have c5_4 : v5.cell? ⟨(xW), 0, none⟩ = some (.slice vaW m vcW) := by rw [(bcell st5).1 _ _ (by omega)]; exact c4_4
      have c5_5 : v5.cell? ⟨v3.heap.size, 0, none⟩ = some (.slice x8a n x8c) := by rw [(bcell st5).1 _ _ (by omega)]; exact c4_5
      have B5 : Hid (Below w.heap.size w v5) := B4.out.trans (st5.mono (by omega))
      have R5_0 : Hid (Row 3 v5 (loW) (hiW) (.slice vaW m vcW) m ZR) := R4_0.out.below st5 (by omega)
      have R5_1 : Hid (Row 3 v5 (v2.heap.size) (v3.heap.size) (.slice x8a n x8c) n (zs Z n 3)) := R4_1.out.below st5 (by omega)
      have R5_2 : Hid (Row 3 v5 (loG) (hiG) (.slice vaG m vcG) m ZR) := br
      have d5_0 : w.heap.size < v5.heap.size := by omega
      have e5_0 : w.heap.size ≠ v5.heap.size := by omega
      have d5_1 : w.heap.size + 1 < v5.heap.size := by omega
      have e5_1 : w.heap.size + 1 ≠ v5.heap.size := by omega
      have d5_2 : (xW) < v5.heap.size := by omega
      have e5_2 : (xW) ≠ v5.heap.size := by omega
      have d5_3 : v3.heap.size < v5.heap.size := by omega
      have e5_3 : v3.heap.size ≠ v5.heap.size := by omega
      clear d4_0 e4_0 d4_1 e4_1 d4_2 e4_2 d4_3 e4_3 c4_0 c4_1 c4_2 c4_3 c4_4 c4_5 B4 st5 R4_0 R4_1 br hb5
      have cbG : v5.cell? ⟨(xG), 0, none⟩ = some (.slice vaG m vcG) := b6
      clear b6
      have ddG : xG < v5.heap.size := b4
      have eeG : xG ≠ v5.heap.size := by omega
      go_wp2_with fail
      go_at_call 16
      refine (eqTable_same ZR m _ _ _ _ _ _ _ R5_2.out R5_0.out (by first | omega | (simp; omega) | simp) (by first | omega | (simp; omega) | simp)).mono ?_
      rintro e v6 ⟨rfl, hb6⟩
      have sz6 : v5.heap.size ≤ v6.heap.size := hb6.size
      have st6 : Below v5.heap.size v5 v6 := hb6
      have c6_0 : v6.cell? ⟨w.heap.size, 0, none⟩ = some (.slice ad n cp) := by rw [(bcell st6).1 _ _ (by omega)]; exact c5_0
      have c6_1 : v6.cell? ⟨w.heap.size + 1, 0, none⟩ = some (.int .i64 z0) := by rw [(bcell st6).1 _ _ (by omega)]; exact c5_1
      have c6_2 : v6.cell? ⟨w.heap.size + 1, 1, none⟩ = some (.int .i64 z1) := by rw [(bcell st6).1 _ _ (by omega)]; exact c5_2
      have c6_3 : v6.cell? ⟨w.heap.size + 1, 2, none⟩ = some (.int .i64 z2) := by rw [(bcell st6).1 _ _ (by omega)]; exact c5_3
      have c6_4 : v6.cell? ⟨(xW), 0, none⟩ = some (.slice vaW m vcW) := by rw [(bcell st6).1 _ _ (by omega)]; exact c5_4
      have c6_5 : v6.cell? ⟨v3.heap.size, 0, none⟩ = some (.slice x8a n x8c) := by rw [(bcell st6).1 _ _ (by omega)]; exact c5_5
      have c6_6 : v6.cell? ⟨(xG), 0, none⟩ = some (.slice vaG m vcG) := by rw [(bcell st6).1 _ _ (by omega)]; exact cbG
      have B6 : Hid (Below w.heap.size w v6) := B5.out.trans (st6.mono (by omega))
      have R6_0 : Hid (Row 3 v6 (loW) (hiW) (.slice vaW m vcW) m ZR) := R5_0.out.below st6 (by omega)
      have R6_1 : Hid (Row 3 v6 (v2.heap.size) (v3.heap.size) (.slice x8a n x8c) n (zs Z n 3)) := R5_1.out.below st6 (by omega)
      have R6_2 : Hid (Row 3 v6 (loG) (hiG) (.slice vaG m vcG) m ZR) := R5_2.out.below st6 (by omega)
      have d6_0 : w.heap.size < v6.heap.size := by omega
      have e6_0 : w.heap.size ≠ v6.heap.size := by omega
      have d6_1 : w.heap.size + 1 < v6.heap.size := by omega
      have e6_1 : w.heap.size + 1 ≠ v6.heap.size := by omega
      have d6_2 : (xW) < v6.heap.size := by omega
      have e6_2 : (xW) ≠ v6.heap.size := by omega
      have d6_3 : v3.heap.size < v6.heap.size := by omega
      have e6_3 : v3.heap.size ≠ v6.heap.size := by omega
      have d6_4 : (xG) < v6.heap.size := by omega
      have e6_4 : (xG) ≠ v6.heap.size := by omega
      clear d5_0 e5_0 d5_1 e5_1 d5_2 e5_2 d5_3 e5_3 ddG eeG c5_0 c5_1 c5_2 c5_3 c5_4 c5_5 cbG B5 st6 R5_0 R5_1 R5_2 hb6
      go_upto_region 10 with fail
      refine wp_region_held_drew (S := (fun w' => w'.cell? ⟨v3.heap.size, 0, none⟩ = some (.slice x8a n x8c) ∧ w'.cell? ⟨w.heap.size, 0, none⟩ = some (.slice ad n cp) ∧ v6.heap.size ≤ w'.heap.size ∧ Below v6.heap.size v6 w')) (by kernel_rfl) ?_ (fun hHeld => ?_)
      · (first | assumption | exact rr2_start c6_5 c6_0 | exact rr2_drew (by assumption) | exact rr2_keep (by omega) (by omega) hb (by assumption) | fail)
      refine step_read 0 47 rfl rfl (by kernel_rfl) (by kernel_rfl) (by kernel_rfl) (fun _ _ _ h => h) (by rfl) (v := ?_) (fun w hSw => ?_) (by assumption) ?_; rotate_left; (focus ((try dsimp only at hSw); go_simp; first | done | exact rfl)); simp only [List.set]
      refine step_read 1 48 rfl rfl (by kernel_rfl) (by kernel_rfl) (by kernel_rfl) (fun _ _ _ h => h) (by rfl) (v := ?_) (fun w hSw => ?_) (by assumption) ?_; rotate_left; (focus ((try dsimp only at hSw); go_simp; first | done | exact rfl)); simp only [List.set]
      refine wpAnyH_ready (rs := [2]) (by kernel_rfl) (by simp) ?_
      refine AllReadyH.cons rfl (fun Kc hK => ?_) (AllReadyH.nil)
      go_simp
      go_at_call 13
      refine (toTable_any _ n Z _ (HA.out.below (B6.out.trans ((rr2_out (by assumption)).2.mono (by omega)))) hn).mono ?_
      rintro e wy1 ⟨yv, rfl, ry, hb⟩
      have hzz := hb.size
      refine hK.out _ _ ?_ (fun hHeld => ?_)
      · (first | assumption | exact rr2_start c6_5 c6_0 | exact rr2_drew (by assumption) | exact rr2_keep (by omega) (by omega) hb (by assumption) | fail)
      clear hK Kc
      refine wpAnyH_ready (rs := [3]) (by kernel_rfl) (by simp) ?_
      refine AllReadyH.cons rfl (fun Kc hK => ?_) (AllReadyH.nil)
      go_simp
      go_at_call 16
      refine (eqTable_same (zs Z n 3) n _ _ _ _ _ _ _ (R6_1.out.below (rr2_out (by assumption)).2 (by omega)) ry (by have hq := (rr2_out (by assumption)).1; omega) (Nat.le_refl _)).mono ?_
      rintro e wy2 ⟨rfl, hb⟩
      have hzz := hb.size
      refine hK.out _ _ ?_ (fun hHeld => ?_)
      · (first | assumption | exact rr2_start c6_5 c6_0 | exact rr2_drew (by assumption) | exact rr2_keep (by omega) (by omega) hb (by assumption) | fail)
      clear hK Kc
      refine step_read 4 51 rfl rfl (by kernel_rfl) (by kernel_rfl) (by kernel_rfl) (fun _ _ _ h => h) (by rfl) (v := ?_) (fun w hSw => ?_) (by assumption) ?_; rotate_left; (focus ((try dsimp only at hSw); go_simp; first | done | exact rfl)); simp only [List.set]
      refine wpAnyH_done (by kernel_rfl) ?_ _
      have hbq7 : Below v6.heap.size v6 wy2 := (rr2_out (by assumption)).2
      clear ry
      have sz7 : v6.heap.size ≤ wy2.heap.size := hbq7.size
      have st7 : Below v6.heap.size v6 wy2 := hbq7
      have c7_0 : wy2.cell? ⟨w.heap.size, 0, none⟩ = some (.slice ad n cp) := by rw [(bcell st7).1 _ _ (by omega)]; exact c6_0
      have c7_1 : wy2.cell? ⟨w.heap.size + 1, 0, none⟩ = some (.int .i64 z0) := by rw [(bcell st7).1 _ _ (by omega)]; exact c6_1
      have c7_2 : wy2.cell? ⟨w.heap.size + 1, 1, none⟩ = some (.int .i64 z1) := by rw [(bcell st7).1 _ _ (by omega)]; exact c6_2
      have c7_3 : wy2.cell? ⟨w.heap.size + 1, 2, none⟩ = some (.int .i64 z2) := by rw [(bcell st7).1 _ _ (by omega)]; exact c6_3
      have c7_4 : wy2.cell? ⟨(xW), 0, none⟩ = some (.slice vaW m vcW) := by rw [(bcell st7).1 _ _ (by omega)]; exact c6_4
      have c7_5 : wy2.cell? ⟨v3.heap.size, 0, none⟩ = some (.slice x8a n x8c) := by rw [(bcell st7).1 _ _ (by omega)]; exact c6_5
      have c7_6 : wy2.cell? ⟨(xG), 0, none⟩ = some (.slice vaG m vcG) := by rw [(bcell st7).1 _ _ (by omega)]; exact c6_6
      have B7 : Hid (Below w.heap.size w wy2) := B6.out.trans (st7.mono (by omega))
      have R7_0 : Hid (Row 3 wy2 (loW) (hiW) (.slice vaW m vcW) m ZR) := R6_0.out.below st7 (by omega)
      have R7_1 : Hid (Row 3 wy2 (v2.heap.size) (v3.heap.size) (.slice x8a n x8c) n (zs Z n 3)) := R6_1.out.below st7 (by omega)
      have R7_2 : Hid (Row 3 wy2 (loG) (hiG) (.slice vaG m vcG) m ZR) := R6_2.out.below st7 (by omega)
      have d7_0 : w.heap.size < wy2.heap.size := by omega
      have e7_0 : w.heap.size ≠ wy2.heap.size := by omega
      have d7_1 : w.heap.size + 1 < wy2.heap.size := by omega
      have e7_1 : w.heap.size + 1 ≠ wy2.heap.size := by omega
      have d7_2 : (xW) < wy2.heap.size := by omega
      have e7_2 : (xW) ≠ wy2.heap.size := by omega
      have d7_3 : v3.heap.size < wy2.heap.size := by omega
      have e7_3 : v3.heap.size ≠ wy2.heap.size := by omega
      have d7_4 : (xG) < wy2.heap.size := by omega
      have e7_4 : (xG) ≠ wy2.heap.size := by omega
      clear d6_0 e6_0 d6_1 e6_1 d6_2 e6_2 d6_3 e6_3 d6_4 e6_4 c6_0 c6_1 c6_2 c6_3 c6_4 c6_5 c6_6 B6 st7 R6_0 R6_1 R6_2 hbq7
      go_wp2_with fail
      go_at_call 17
      refine (markTable_K KX (zs Z n 3) n _ _ _ _ HKX.out R7_1.out (by omega) (by omega)).mono ?_
      rintro e v8 ⟨rfl, hrm, hbm⟩
      have sz8 : wy2.heap.size ≤ v8.heap.size := hbm.size
      have c8_0 : v8.cell? ⟨w.heap.size, 0, none⟩ = some (.slice ad n cp) := by rw [hbm.cell (by omega) (by omega)]; exact c7_0
      have c8_1 : v8.cell? ⟨w.heap.size + 1, 0, none⟩ = some (.int .i64 z0) := by rw [hbm.cell (by omega) (by omega)]; exact c7_1
      have c8_2 : v8.cell? ⟨w.heap.size + 1, 1, none⟩ = some (.int .i64 z1) := by rw [hbm.cell (by omega) (by omega)]; exact c7_2
      have c8_3 : v8.cell? ⟨w.heap.size + 1, 2, none⟩ = some (.int .i64 z2) := by rw [hbm.cell (by omega) (by omega)]; exact c7_3
      have c8_4 : v8.cell? ⟨(xW), 0, none⟩ = some (.slice vaW m vcW) := by rw [hbm.cell (by omega) (by omega)]; exact c7_4
      have c8_5 : v8.cell? ⟨v3.heap.size, 0, none⟩ = some (.slice x8a n x8c) := by rw [hbm.cell (by omega) (by omega)]; exact c7_5
      have c8_6 : v8.cell? ⟨(xG), 0, none⟩ = some (.slice vaG m vcG) := by rw [hbm.cell (by omega) (by omega)]; exact c7_6
      have B8 : Hid (Below w.heap.size w v8) := B7.out.trans (hbm.below (by omega) (by omega))
      have R8_0 : Hid (Row 3 v8 (loW) (hiW) (.slice vaW m vcW) m ZR) := hbm.row R7_0.out (by omega) (by omega)
      have R8_1 : Hid (Row 3 v8 (v2.heap.size) (v3.heap.size) (.slice x8a n x8c) n (marks 1 (n * 3))) := hrm
      have R8_2 : Hid (Row 3 v8 (loG) (hiG) (.slice vaG m vcG) m ZR) := hbm.row R7_2.out (by omega) (by omega)
      have d8_0 : w.heap.size < v8.heap.size := by omega
      have e8_0 : w.heap.size ≠ v8.heap.size := by omega
      have d8_1 : w.heap.size + 1 < v8.heap.size := by omega
      have e8_1 : w.heap.size + 1 ≠ v8.heap.size := by omega
      have d8_2 : (xW) < v8.heap.size := by omega
      have e8_2 : (xW) ≠ v8.heap.size := by omega
      have d8_3 : v3.heap.size < v8.heap.size := by omega
      have e8_3 : v3.heap.size ≠ v8.heap.size := by omega
      have d8_4 : (xG) < v8.heap.size := by omega
      have e8_4 : (xG) ≠ v8.heap.size := by omega
      clear d7_0 e7_0 d7_1 e7_1 d7_2 e7_2 d7_3 e7_3 d7_4 e7_4 c7_0 c7_1 c7_2 c7_3 c7_4 c7_5 c7_6 B7 R7_0 R7_1 R7_2 hrm hbm
      go_wp2_with fail
      go_at_call 16
      refine (eqTable_same ZR m _ _ _ _ _ _ _ R8_2.out R8_0.out (by first | omega | (simp; omega) | simp) (by first | omega | (simp; omega) | simp)).mono ?_
      rintro e v9 ⟨rfl, hb9⟩
      have sz9 : v8.heap.size ≤ v9.heap.size := hb9.size
      have st9 : Below v8.heap.size v8 v9 := hb9
      have c9_0 : v9.cell? ⟨w.heap.size, 0, none⟩ = some (.slice ad n cp) := by rw [(bcell st9).1 _ _ (by omega)]; exact c8_0
      have c9_1 : v9.cell? ⟨w.heap.size + 1, 0, none⟩ = some (.int .i64 z0) := by rw [(bcell st9).1 _ _ (by omega)]; exact c8_1
      have c9_2 : v9.cell? ⟨w.heap.size + 1, 1, none⟩ = some (.int .i64 z1) := by rw [(bcell st9).1 _ _ (by omega)]; exact c8_2
      have c9_3 : v9.cell? ⟨w.heap.size + 1, 2, none⟩ = some (.int .i64 z2) := by rw [(bcell st9).1 _ _ (by omega)]; exact c8_3
      have c9_4 : v9.cell? ⟨(xW), 0, none⟩ = some (.slice vaW m vcW) := by rw [(bcell st9).1 _ _ (by omega)]; exact c8_4
      have c9_5 : v9.cell? ⟨v3.heap.size, 0, none⟩ = some (.slice x8a n x8c) := by rw [(bcell st9).1 _ _ (by omega)]; exact c8_5
      have c9_6 : v9.cell? ⟨(xG), 0, none⟩ = some (.slice vaG m vcG) := by rw [(bcell st9).1 _ _ (by omega)]; exact c8_6
      have B9 : Hid (Below w.heap.size w v9) := B8.out.trans (st9.mono (by omega))
      have R9_0 : Hid (Row 3 v9 (loW) (hiW) (.slice vaW m vcW) m ZR) := R8_0.out.below st9 (by omega)
      have R9_1 : Hid (Row 3 v9 (v2.heap.size) (v3.heap.size) (.slice x8a n x8c) n (marks 1 (n * 3))) := R8_1.out.below st9 (by omega)
      have R9_2 : Hid (Row 3 v9 (loG) (hiG) (.slice vaG m vcG) m ZR) := R8_2.out.below st9 (by omega)
      have d9_0 : w.heap.size < v9.heap.size := by omega
      have e9_0 : w.heap.size ≠ v9.heap.size := by omega
      have d9_1 : w.heap.size + 1 < v9.heap.size := by omega
      have e9_1 : w.heap.size + 1 ≠ v9.heap.size := by omega
      have d9_2 : (xW) < v9.heap.size := by omega
      have e9_2 : (xW) ≠ v9.heap.size := by omega
      have d9_3 : v3.heap.size < v9.heap.size := by omega
      have e9_3 : v3.heap.size ≠ v9.heap.size := by omega
      have d9_4 : (xG) < v9.heap.size := by omega
      have e9_4 : (xG) ≠ v9.heap.size := by omega
      clear d8_0 e8_0 d8_1 e8_1 d8_2 e8_2 d8_3 e8_3 d8_4 e8_4 c8_0 c8_1 c8_2 c8_3 c8_4 c8_5 c8_6 B8 st9 R8_0 R8_1 R8_2 hb9
      go_wp2_with fail
      go_at_call 17
      refine (markTable_K KG ZR m _ _ _ _ HKG.out R9_2.out (by omega) (by omega)).mono ?_
      rintro e v10 ⟨rfl, hrm, hbm⟩
      have sz10 : v9.heap.size ≤ v10.heap.size := hbm.size
      have c10_0 : v10.cell? ⟨w.heap.size, 0, none⟩ = some (.slice ad n cp) := by rw [hbm.cell (by omega) (by omega)]; exact c9_0
      have c10_1 : v10.cell? ⟨w.heap.size + 1, 0, none⟩ = some (.int .i64 z0) := by rw [hbm.cell (by omega) (by omega)]; exact c9_1
      have c10_2 : v10.cell? ⟨w.heap.size + 1, 1, none⟩ = some (.int .i64 z1) := by rw [hbm.cell (by omega) (by omega)]; exact c9_2
      have c10_3 : v10.cell? ⟨w.heap.size + 1, 2, none⟩ = some (.int .i64 z2) := by rw [hbm.cell (by omega) (by omega)]; exact c9_3
      have c10_4 : v10.cell? ⟨(xW), 0, none⟩ = some (.slice vaW m vcW) := by rw [hbm.cell (by omega) (by omega)]; exact c9_4
      have c10_5 : v10.cell? ⟨v3.heap.size, 0, none⟩ = some (.slice x8a n x8c) := by rw [hbm.cell (by omega) (by omega)]; exact c9_5
      have c10_6 : v10.cell? ⟨(xG), 0, none⟩ = some (.slice vaG m vcG) := by rw [hbm.cell (by omega) (by omega)]; exact c9_6
      have B10 : Hid (Below w.heap.size w v10) := B9.out.trans (hbm.below (by omega) (by omega))
      have R10_0 : Hid (Row 3 v10 (loW) (hiW) (.slice vaW m vcW) m ZR) := hbm.row R9_0.out (by omega) (by omega)
      have R10_1 : Hid (Row 3 v10 (v2.heap.size) (v3.heap.size) (.slice x8a n x8c) n (marks 1 (n * 3))) := hbm.row R9_1.out (by omega) (by omega)
      have R10_2 : Hid (Row 3 v10 (loG) (hiG) (.slice vaG m vcG) m (marks 1 (m * 3))) := hrm
      have d10_0 : w.heap.size < v10.heap.size := by omega
      have e10_0 : w.heap.size ≠ v10.heap.size := by omega
      have d10_1 : w.heap.size + 1 < v10.heap.size := by omega
      have e10_1 : w.heap.size + 1 ≠ v10.heap.size := by omega
      have d10_2 : (xW) < v10.heap.size := by omega
      have e10_2 : (xW) ≠ v10.heap.size := by omega
      have d10_3 : v3.heap.size < v10.heap.size := by omega
      have e10_3 : v3.heap.size ≠ v10.heap.size := by omega
      have d10_4 : (xG) < v10.heap.size := by omega
      have e10_4 : (xG) ≠ v10.heap.size := by omega
      clear d9_0 e9_0 d9_1 e9_1 d9_2 e9_2 d9_3 e9_3 d9_4 e9_4 c9_0 c9_1 c9_2 c9_3 c9_4 c9_5 c9_6 B9 R9_0 R9_1 R9_2 hrm hbm
      go_wp2_with fail
      go_at_call 18
      refine (heldTable_K KG m _ _ _ _ HKG.out R10_2.out (by omega) (by omega)).mono ?_
      rintro e v11 ⟨rfl, hb11⟩
      have sz11 : v10.heap.size ≤ v11.heap.size := hb11.size
      have st11 : Below v10.heap.size v10 v11 := hb11
      have c11_0 : v11.cell? ⟨w.heap.size, 0, none⟩ = some (.slice ad n cp) := by rw [(bcell st11).1 _ _ (by omega)]; exact c10_0
      have c11_1 : v11.cell? ⟨w.heap.size + 1, 0, none⟩ = some (.int .i64 z0) := by rw [(bcell st11).1 _ _ (by omega)]; exact c10_1
      have c11_2 : v11.cell? ⟨w.heap.size + 1, 1, none⟩ = some (.int .i64 z1) := by rw [(bcell st11).1 _ _ (by omega)]; exact c10_2
      have c11_3 : v11.cell? ⟨w.heap.size + 1, 2, none⟩ = some (.int .i64 z2) := by rw [(bcell st11).1 _ _ (by omega)]; exact c10_3
      have c11_4 : v11.cell? ⟨(xW), 0, none⟩ = some (.slice vaW m vcW) := by rw [(bcell st11).1 _ _ (by omega)]; exact c10_4
      have c11_5 : v11.cell? ⟨v3.heap.size, 0, none⟩ = some (.slice x8a n x8c) := by rw [(bcell st11).1 _ _ (by omega)]; exact c10_5
      have c11_6 : v11.cell? ⟨(xG), 0, none⟩ = some (.slice vaG m vcG) := by rw [(bcell st11).1 _ _ (by omega)]; exact c10_6
      have B11 : Hid (Below w.heap.size w v11) := B10.out.trans (st11.mono (by omega))
      have R11_0 : Hid (Row 3 v11 (loW) (hiW) (.slice vaW m vcW) m ZR) := R10_0.out.below st11 (by omega)
      have R11_1 : Hid (Row 3 v11 (v2.heap.size) (v3.heap.size) (.slice x8a n x8c) n (marks 1 (n * 3))) := R10_1.out.below st11 (by omega)
      have R11_2 : Hid (Row 3 v11 (loG) (hiG) (.slice vaG m vcG) m (marks 1 (m * 3))) := R10_2.out.below st11 (by omega)
      have d11_0 : w.heap.size < v11.heap.size := by omega
      have e11_0 : w.heap.size ≠ v11.heap.size := by omega
      have d11_1 : w.heap.size + 1 < v11.heap.size := by omega
      have e11_1 : w.heap.size + 1 ≠ v11.heap.size := by omega
      have d11_2 : (xW) < v11.heap.size := by omega
      have e11_2 : (xW) ≠ v11.heap.size := by omega
      have d11_3 : v3.heap.size < v11.heap.size := by omega
      have e11_3 : v3.heap.size ≠ v11.heap.size := by omega
      have d11_4 : (xG) < v11.heap.size := by omega
      have e11_4 : (xG) ≠ v11.heap.size := by omega
      clear d10_0 e10_0 d10_1 e10_1 d10_2 e10_2 d10_3 e10_3 d10_4 e10_4 c10_0 c10_1 c10_2 c10_3 c10_4 c10_5 c10_6 B10 st11 R10_0 R10_1 R10_2 hb11
      go_upto_region 24 with fail
      go_cut [14, 15] (fun s14 s15 wx => ∃ (bx lo hi : Nat) (va : Option Addr) (vc : Nat), s14 = .pointer (some ⟨bx, 0, none⟩) ∧ s15 = .bool b ∧ Hid (BoxR v11 wx bx lo hi (.slice va m vc) m ZR))
      case first =>
        go_wp2_with fail
        refine wp_region_held_drew (S := (fun w' => w'.cell? ⟨w.heap.size, 0, none⟩ = some (.slice ad n cp) ∧ w'.cell? ⟨w.heap.size + 1, 0, none⟩ = some (.int .i64 z0) ∧ w'.cell? ⟨w.heap.size + 1, 1, none⟩ = some (.int .i64 z1) ∧ w'.cell? ⟨w.heap.size + 1, 2, none⟩ = some (.int .i64 z2) ∧ v11.heap.size ≤ w'.heap.size ∧ Below v11.heap.size v11 w')) (by kernel_rfl) ?_ (fun hHeld => ?_)
        · (first | assumption | exact rr4_start c11_0 c11_1 c11_2 c11_3 | exact rr4_drew (by assumption) | exact rr4_keep (by omega) (by omega) (by omega) (by omega) hb (by assumption) | exact rr4_store (by omega) (by omega) (by omega) (by omega) (by omega) (by assumption) | fail)
        refine step_read 0 80 rfl rfl (by kernel_rfl) (by kernel_rfl) (by kernel_rfl) (fun _ _ _ h => h) (by rfl) (v := ?_) (fun w hSw => ?_) (by assumption) ?_; rotate_left; (focus ((try dsimp only at hSw); go_simp; first | done | exact rfl)); simp only [List.set]
        refine step_read 2 82 rfl rfl (by kernel_rfl) (by kernel_rfl) (by kernel_rfl) (fun _ _ _ h => h) (by rfl) (v := ?_) (fun w hSw => ?_) (by assumption) ?_; rotate_left; (focus ((try dsimp only at hSw); go_simp; first | done | exact rfl)); simp only [List.set]
        refine wpAnyH_ready (rs := [1, 8]) (by kernel_rfl) (by simp) ?_
        refine AllReadyH.cons rfl (fun Kc hK => ?_) (AllReadyH.cons rfl (fun Kc hK => ?_) (AllReadyH.nil))
        · go_simp
          go_at_call 13
          refine (toTable_any _ n Z _ (HA.out.below (B11.out.trans ((rr4_out (by assumption)).2.mono (by omega)))) hn).mono ?_
          rintro e wr1 ⟨yv, rfl, ry, hb⟩
          have hzz := hb.size
          refine hK.out _ _ ?_ (fun hHeld => ?_)
          · (first | assumption | exact rr4_start c11_0 c11_1 c11_2 c11_3 | exact rr4_drew (by assumption) | exact rr4_keep (by omega) (by omega) (by omega) (by omega) hb (by assumption) | exact rr4_store (by omega) (by omega) (by omega) (by omega) (by omega) (by assumption) | fail)
          clear hK Kc
          refine wpAnyH_ready (rs := [3, 8]) (by kernel_rfl) (by simp) ?_
          refine AllReadyH.cons rfl (fun Kc hK => ?_) (AllReadyH.cons rfl (fun Kc hK => ?_) (AllReadyH.nil))
          · go_simp
            go_at_call 20
            refine (toRoute_any z0 z1 z2 _).mono ?_
            rintro e wr2 ⟨rfl, hb⟩
            have hzz := hb.size
            replace ry := ry.below hb (by first | exact Nat.le_refl _ | omega)
            refine hK.out _ _ ?_ (fun hHeld => ?_)
            · (first | assumption | exact rr4_start c11_0 c11_1 c11_2 c11_3 | exact rr4_drew (by assumption) | exact rr4_keep (by omega) (by omega) (by omega) (by omega) hb (by assumption) | exact rr4_store (by omega) (by omega) (by omega) (by omega) (by omega) (by assumption) | fail)
            clear hK Kc
            refine wpAnyH_ready (rs := [4, 8]) (by kernel_rfl) (by simp) ?_
            refine AllReadyH.cons rfl (fun Kc hK => ?_) (AllReadyH.cons rfl (fun Kc hK => ?_) (AllReadyH.nil))
            · go_simp
              go_at_call 21
              refine (Hi.out _ _ _ _ ry (by first | exact Nat.le_refl _ | omega)).mono ?_
              rintro e wr3 ⟨qv, rfl, rq, hb⟩
              have hzz := hb.size
              obtain ⟨qa, qc, rfl⟩ := rq.slice
              replace ry := ry.below hb (by first | exact Nat.le_refl _ | omega)
              refine hK.out _ _ ?_ (fun hHeld => ?_)
              · (first | assumption | exact rr4_start c11_0 c11_1 c11_2 c11_3 | exact rr4_drew (by assumption) | exact rr4_keep (by omega) (by omega) (by omega) (by omega) hb (by assumption) | exact rr4_store (by omega) (by omega) (by omega) (by omega) (by omega) (by assumption) | fail)
              clear hK Kc
              refine step_read 5 79 rfl rfl (by kernel_rfl) (by kernel_rfl) (by kernel_rfl) (fun _ _ _ h => h) (by rfl) (v := ?_) (fun w hSw => ?_) (by assumption) ?_; rotate_left; (focus ((try dsimp only at hSw); go_simp; first | done | exact rfl)); simp only [List.set]
              refine step_read 6 85 rfl rfl (by kernel_rfl) (by kernel_rfl) (by kernel_rfl) (fun _ _ _ h => h) (by rfl) (v := ?_) (fun w hSw => ?_) (by assumption) ?_; rotate_left; (focus ((try dsimp only at hSw); go_simp; first | done | exact rfl)); simp only [List.set]
              refine step_read 7 86 rfl rfl (by kernel_rfl) (by kernel_rfl) (by kernel_rfl) (fun _ _ _ h => h) (by rfl) (v := ?_) (fun w hSw => ?_) (by assumption) ?_; rotate_left; (focus ((try dsimp only at hSw); go_simp; first | done | exact rfl)); simp only [List.set]
              refine wpAnyH_ready (rs := [8]) (by kernel_rfl) (by simp) ?_
              refine AllReadyH.cons rfl (fun Kc hK => ?_) (AllReadyH.nil)
              go_simp
              refine at_world (fun wa4 hwa => ?_)
              have hb : Below wr3.heap.size wr3 wa4 := by rw [hwa]; exact (Below.refl _ _).alloc (Nat.le_refl _) _
              have bc : wa4.cell? ⟨wr3.heap.size, 0, none⟩ = some (.slice none 0 0) := by rw [hwa]; simp
              have bf : wa4.frozen? ⟨wr3.heap.size, 0, none⟩ = false := by rw [hwa]; simp [go_sem]
              have hbz : wr3.heap.size < wa4.heap.size := by rw [hwa]; simp
              have hzz := hb.size
              replace ry := ry.below hb (by first | exact Nat.le_refl _ | omega)
              replace rq := rq.below hb (by first | exact Nat.le_refl _ | omega)
              have hbb : v11.heap.size ≤ wr3.heap.size := by first | exact Nat.le_refl _ | (have hq := (rr4_out (by assumption)).1; omega)
              have hSn :  wa4.cell? ⟨w.heap.size, 0, none⟩ = some (.slice ad n cp) ∧ wa4.cell? ⟨w.heap.size + 1, 0, none⟩ = some (.int .i64 z0) ∧ wa4.cell? ⟨w.heap.size + 1, 1, none⟩ = some (.int .i64 z1) ∧ wa4.cell? ⟨w.heap.size + 1, 2, none⟩ = some (.int .i64 z2) ∧ v11.heap.size ≤ wa4.heap.size ∧ Below v11.heap.size v11 wa4 := by rw [hwa]; first | exact rr4_drew (rr4_box (by omega) (by omega) (by omega) (by omega) HSB) | exact rr4_box (by omega) (by omega) (by omega) (by omega) (by assumption)
              clear hwa
              refine hK.out _ _ ?_ (fun hHeld => ?_)
              · (first | assumption | exact rr4_start c11_0 c11_1 c11_2 c11_3 | exact rr4_drew (by assumption) | exact rr4_keep (by omega) (by omega) (by omega) (by omega) hb (by assumption) | exact rr4_store (by omega) (by omega) (by omega) (by omega) (by omega) (by assumption) | fail)
              clear hK Kc
              refine wpAnyH_ready (rs := [9]) (by kernel_rfl) (by simp) ?_
              refine AllReadyH.cons rfl (fun Kc hK => ?_) (AllReadyH.nil)
              go_simp
              refine at_world (fun ws5 hwa => ?_)
              have hBR := BoxR.mk' hwa rq (base := v11) (by have hq := (rr4_out (by assumption)).1; omega) (by omega) hbb (by omega) (by omega) bc (rr4_out (by assumption)).2
              have hSn :  ws5.cell? ⟨w.heap.size, 0, none⟩ = some (.slice ad n cp) ∧ ws5.cell? ⟨w.heap.size + 1, 0, none⟩ = some (.int .i64 z0) ∧ ws5.cell? ⟨w.heap.size + 1, 1, none⟩ = some (.int .i64 z1) ∧ ws5.cell? ⟨w.heap.size + 1, 2, none⟩ = some (.int .i64 z2) ∧ v11.heap.size ≤ ws5.heap.size ∧ Below v11.heap.size v11 ws5 := by rw [hwa]; exact rr4_store (by omega) (by omega) (by omega) (by omega) hbb (by assumption)
              clear hwa
              refine hK.out _ _ ?_ (fun hHeld => ?_)
              · (first | assumption | exact rr4_start c11_0 c11_1 c11_2 c11_3 | exact rr4_drew (by assumption) | exact rr4_keep (by omega) (by omega) (by omega) (by omega) hb (by assumption) | exact rr4_store (by omega) (by omega) (by omega) (by omega) (by omega) (by assumption) | fail)
              clear hK Kc
              refine step_read 10 15 rfl rfl (by kernel_rfl) (by kernel_rfl) (by kernel_rfl) (fun _ _ _ h => h) (by rfl) (v := ?_) (fun w hSw => ?_) (by assumption) ?_; rotate_left; (focus ((try dsimp only at hSw); go_simp; first | done | exact rfl)); simp only [List.set]
              refine wpAnyH_done (by kernel_rfl) ?_ _
              go_wp2_with fail
              go_meet
              exact ⟨_, _, _, _, _, rfl, rfl, Lib.hid hBR⟩
            · go_simp
              refine at_world (fun wa6 hwa => ?_)
              have hb : Below wr2.heap.size wr2 wa6 := by rw [hwa]; exact (Below.refl _ _).alloc (Nat.le_refl _) _
              have bc : wa6.cell? ⟨wr2.heap.size, 0, none⟩ = some (.slice none 0 0) := by rw [hwa]; simp
              have bf : wa6.frozen? ⟨wr2.heap.size, 0, none⟩ = false := by rw [hwa]; simp [go_sem]
              have hbz : wr2.heap.size < wa6.heap.size := by rw [hwa]; simp
              have hzz := hb.size
              replace ry := ry.below hb (by first | exact Nat.le_refl _ | omega)
              have hbb : v11.heap.size ≤ wr2.heap.size := by first | exact Nat.le_refl _ | (have hq := (rr4_out (by assumption)).1; omega)
              have hSn :  wa6.cell? ⟨w.heap.size, 0, none⟩ = some (.slice ad n cp) ∧ wa6.cell? ⟨w.heap.size + 1, 0, none⟩ = some (.int .i64 z0) ∧ wa6.cell? ⟨w.heap.size + 1, 1, none⟩ = some (.int .i64 z1) ∧ wa6.cell? ⟨w.heap.size + 1, 2, none⟩ = some (.int .i64 z2) ∧ v11.heap.size ≤ wa6.heap.size ∧ Below v11.heap.size v11 wa6 := by rw [hwa]; first | exact rr4_drew (rr4_box (by omega) (by omega) (by omega) (by omega) HSB) | exact rr4_box (by omega) (by omega) (by omega) (by omega) (by assumption)
              clear hwa
              refine hK.out _ _ ?_ (fun hHeld => ?_)
              · (first | assumption | exact rr4_start c11_0 c11_1 c11_2 c11_3 | exact rr4_drew (by assumption) | exact rr4_keep (by omega) (by omega) (by omega) (by omega) hb (by assumption) | exact rr4_store (by omega) (by omega) (by omega) (by omega) (by omega) (by assumption) | fail)
              clear hK Kc
              refine wpAnyH_ready (rs := [4]) (by kernel_rfl) (by simp) ?_
              refine AllReadyH.cons rfl (fun Kc hK => ?_) (AllReadyH.nil)
              go_simp
              go_at_call 21
              refine (Hi.out _ _ _ _ ry (by first | exact Nat.le_refl _ | omega)).mono ?_
              rintro e wr7 ⟨qv, rfl, rq, hb⟩
              have hzz := hb.size
              obtain ⟨qa, qc, rfl⟩ := rq.slice
              have hbz0 := hbz
              replace ry := ry.below hb (by first | exact Nat.le_refl _ | omega)
              replace bc : wr7.cell? ⟨wr2.heap.size, 0, none⟩ = some (.slice none 0 0) := by rw [hb.cell (p := ⟨wr2.heap.size, 0, none⟩) hbz]; exact bc
              replace bf : wr7.frozen? ⟨wr2.heap.size, 0, none⟩ = false := by rw [hb.frozen (p := ⟨wr2.heap.size, 0, none⟩) hbz]; exact bf
              replace hbz : wr2.heap.size < wr7.heap.size := Nat.lt_of_lt_of_le hbz hb.size
              refine hK.out _ _ ?_ (fun hHeld => ?_)
              · (first | assumption | exact rr4_start c11_0 c11_1 c11_2 c11_3 | exact rr4_drew (by assumption) | exact rr4_keep (by omega) (by omega) (by omega) (by omega) hb (by assumption) | exact rr4_store (by omega) (by omega) (by omega) (by omega) (by omega) (by assumption) | fail)
              clear hK Kc
              refine step_read 5 79 rfl rfl (by kernel_rfl) (by kernel_rfl) (by kernel_rfl) (fun _ _ _ h => h) (by rfl) (v := ?_) (fun w hSw => ?_) (by assumption) ?_; rotate_left; (focus ((try dsimp only at hSw); go_simp; first | done | exact rfl)); simp only [List.set]
              refine step_read 6 85 rfl rfl (by kernel_rfl) (by kernel_rfl) (by kernel_rfl) (fun _ _ _ h => h) (by rfl) (v := ?_) (fun w hSw => ?_) (by assumption) ?_; rotate_left; (focus ((try dsimp only at hSw); go_simp; first | done | exact rfl)); simp only [List.set]
              refine step_read 7 86 rfl rfl (by kernel_rfl) (by kernel_rfl) (by kernel_rfl) (fun _ _ _ h => h) (by rfl) (v := ?_) (fun w hSw => ?_) (by assumption) ?_; rotate_left; (focus ((try dsimp only at hSw); go_simp; first | done | exact rfl)); simp only [List.set]
              refine wpAnyH_ready (rs := [9]) (by kernel_rfl) (by simp) ?_
              refine AllReadyH.cons rfl (fun Kc hK => ?_) (AllReadyH.nil)
              go_simp
              refine at_world (fun ws8 hwa => ?_)
              have hBR := BoxR.mk' hwa rq (base := v11) (by have hq := (rr4_out (by assumption)).1; omega) (by omega) hbb (by omega) (by omega) bc (rr4_out (by assumption)).2
              have hSn :  ws8.cell? ⟨w.heap.size, 0, none⟩ = some (.slice ad n cp) ∧ ws8.cell? ⟨w.heap.size + 1, 0, none⟩ = some (.int .i64 z0) ∧ ws8.cell? ⟨w.heap.size + 1, 1, none⟩ = some (.int .i64 z1) ∧ ws8.cell? ⟨w.heap.size + 1, 2, none⟩ = some (.int .i64 z2) ∧ v11.heap.size ≤ ws8.heap.size ∧ Below v11.heap.size v11 ws8 := by rw [hwa]; exact rr4_store (by omega) (by omega) (by omega) (by omega) hbb (by assumption)
              clear hwa
              refine hK.out _ _ ?_ (fun hHeld => ?_)
              · (first | assumption | exact rr4_start c11_0 c11_1 c11_2 c11_3 | exact rr4_drew (by assumption) | exact rr4_keep (by omega) (by omega) (by omega) (by omega) hb (by assumption) | exact rr4_store (by omega) (by omega) (by omega) (by omega) (by omega) (by assumption) | fail)
              clear hK Kc
              refine step_read 10 15 rfl rfl (by kernel_rfl) (by kernel_rfl) (by kernel_rfl) (fun _ _ _ h => h) (by rfl) (v := ?_) (fun w hSw => ?_) (by assumption) ?_; rotate_left; (focus ((try dsimp only at hSw); go_simp; first | done | exact rfl)); simp only [List.set]
              refine wpAnyH_done (by kernel_rfl) ?_ _
              go_wp2_with fail
              go_meet
              exact ⟨_, _, _, _, _, rfl, rfl, Lib.hid hBR⟩
          · go_simp
            refine at_world (fun wa9 hwa => ?_)
            have hb : Below wr1.heap.size wr1 wa9 := by rw [hwa]; exact (Below.refl _ _).alloc (Nat.le_refl _) _
            have bc : wa9.cell? ⟨wr1.heap.size, 0, none⟩ = some (.slice none 0 0) := by rw [hwa]; simp
            have bf : wa9.frozen? ⟨wr1.heap.size, 0, none⟩ = false := by rw [hwa]; simp [go_sem]
            have hbz : wr1.heap.size < wa9.heap.size := by rw [hwa]; simp
            have hzz := hb.size
            replace ry := ry.below hb (by first | exact Nat.le_refl _ | omega)
            have hbb : v11.heap.size ≤ wr1.heap.size := by first | exact Nat.le_refl _ | (have hq := (rr4_out (by assumption)).1; omega)
            have hSn :  wa9.cell? ⟨w.heap.size, 0, none⟩ = some (.slice ad n cp) ∧ wa9.cell? ⟨w.heap.size + 1, 0, none⟩ = some (.int .i64 z0) ∧ wa9.cell? ⟨w.heap.size + 1, 1, none⟩ = some (.int .i64 z1) ∧ wa9.cell? ⟨w.heap.size + 1, 2, none⟩ = some (.int .i64 z2) ∧ v11.heap.size ≤ wa9.heap.size ∧ Below v11.heap.size v11 wa9 := by rw [hwa]; first | exact rr4_drew (rr4_box (by omega) (by omega) (by omega) (by omega) HSB) | exact rr4_box (by omega) (by omega) (by omega) (by omega) (by assumption)
            clear hwa
            refine hK.out _ _ ?_ (fun hHeld => ?_)
            · (first | assumption | exact rr4_start c11_0 c11_1 c11_2 c11_3 | exact rr4_drew (by assumption) | exact rr4_keep (by omega) (by omega) (by omega) (by omega) hb (by assumption) | exact rr4_store (by omega) (by omega) (by omega) (by omega) (by omega) (by assumption) | fail)
            clear hK Kc
            refine wpAnyH_ready (rs := [3]) (by kernel_rfl) (by simp) ?_
            refine AllReadyH.cons rfl (fun Kc hK => ?_) (AllReadyH.nil)
            go_simp
            go_at_call 20
            refine (toRoute_any z0 z1 z2 _).mono ?_
            rintro e wr10 ⟨rfl, hb⟩
            have hzz := hb.size
            replace ry := ry.below hb (by first | exact Nat.le_refl _ | omega)
            replace bc : wr10.cell? ⟨wr1.heap.size, 0, none⟩ = some (.slice none 0 0) := by rw [hb.cell (p := ⟨wr1.heap.size, 0, none⟩) hbz]; exact bc
            replace bf : wr10.frozen? ⟨wr1.heap.size, 0, none⟩ = false := by rw [hb.frozen (p := ⟨wr1.heap.size, 0, none⟩) hbz]; exact bf
            replace hbz : wr1.heap.size < wr10.heap.size := Nat.lt_of_lt_of_le hbz hb.size
            refine hK.out _ _ ?_ (fun hHeld => ?_)
            · (first | assumption | exact rr4_start c11_0 c11_1 c11_2 c11_3 | exact rr4_drew (by assumption) | exact rr4_keep (by omega) (by omega) (by omega) (by omega) hb (by assumption) | exact rr4_store (by omega) (by omega) (by omega) (by omega) (by omega) (by assumption) | fail)
            clear hK Kc
            refine wpAnyH_ready (rs := [4]) (by kernel_rfl) (by simp) ?_
            refine AllReadyH.cons rfl (fun Kc hK => ?_) (AllReadyH.nil)
            go_simp
            go_at_call 21
            refine (Hi.out _ _ _ _ ry (by first | exact Nat.le_refl _ | omega)).mono ?_
            rintro e wr11 ⟨qv, rfl, rq, hb⟩
            have hzz := hb.size
            obtain ⟨qa, qc, rfl⟩ := rq.slice
            have hbz0 := hbz
            replace ry := ry.below hb (by first | exact Nat.le_refl _ | omega)
            replace bc : wr11.cell? ⟨wr1.heap.size, 0, none⟩ = some (.slice none 0 0) := by rw [hb.cell (p := ⟨wr1.heap.size, 0, none⟩) hbz]; exact bc
            replace bf : wr11.frozen? ⟨wr1.heap.size, 0, none⟩ = false := by rw [hb.frozen (p := ⟨wr1.heap.size, 0, none⟩) hbz]; exact bf
            replace hbz : wr1.heap.size < wr11.heap.size := Nat.lt_of_lt_of_le hbz hb.size
            refine hK.out _ _ ?_ (fun hHeld => ?_)
            · (first | assumption | exact rr4_start c11_0 c11_1 c11_2 c11_3 | exact rr4_drew (by assumption) | exact rr4_keep (by omega) (by omega) (by omega) (by omega) hb (by assumption) | exact rr4_store (by omega) (by omega) (by omega) (by omega) (by omega) (by assumption) | fail)
            clear hK Kc
            refine step_read 5 79 rfl rfl (by kernel_rfl) (by kernel_rfl) (by kernel_rfl) (fun _ _ _ h => h) (by rfl) (v := ?_) (fun w hSw => ?_) (by assumption) ?_; rotate_left; (focus ((try dsimp only at hSw); go_simp; first | done | exact rfl)); simp only [List.set]
            refine step_read 6 85 rfl rfl (by kernel_rfl) (by kernel_rfl) (by kernel_rfl) (fun _ _ _ h => h) (by rfl) (v := ?_) (fun w hSw => ?_) (by assumption) ?_; rotate_left; (focus ((try dsimp only at hSw); go_simp; first | done | exact rfl)); simp only [List.set]
            refine step_read 7 86 rfl rfl (by kernel_rfl) (by kernel_rfl) (by kernel_rfl) (fun _ _ _ h => h) (by rfl) (v := ?_) (fun w hSw => ?_) (by assumption) ?_; rotate_left; (focus ((try dsimp only at hSw); go_simp; first | done | exact rfl)); simp only [List.set]
            refine wpAnyH_ready (rs := [9]) (by kernel_rfl) (by simp) ?_
            refine AllReadyH.cons rfl (fun Kc hK => ?_) (AllReadyH.nil)
            go_simp
            refine at_world (fun ws12 hwa => ?_)
            have hBR := BoxR.mk' hwa rq (base := v11) (by have hq := (rr4_out (by assumption)).1; omega) (by omega) hbb (by omega) (by omega) bc (rr4_out (by assumption)).2
            have hSn :  ws12.cell? ⟨w.heap.size, 0, none⟩ = some (.slice ad n cp) ∧ ws12.cell? ⟨w.heap.size + 1, 0, none⟩ = some (.int .i64 z0) ∧ ws12.cell? ⟨w.heap.size + 1, 1, none⟩ = some (.int .i64 z1) ∧ ws12.cell? ⟨w.heap.size + 1, 2, none⟩ = some (.int .i64 z2) ∧ v11.heap.size ≤ ws12.heap.size ∧ Below v11.heap.size v11 ws12 := by rw [hwa]; exact rr4_store (by omega) (by omega) (by omega) (by omega) hbb (by assumption)
            clear hwa
            refine hK.out _ _ ?_ (fun hHeld => ?_)
            · (first | assumption | exact rr4_start c11_0 c11_1 c11_2 c11_3 | exact rr4_drew (by assumption) | exact rr4_keep (by omega) (by omega) (by omega) (by omega) hb (by assumption) | exact rr4_store (by omega) (by omega) (by omega) (by omega) (by omega) (by assumption) | fail)
            clear hK Kc
            refine step_read 10 15 rfl rfl (by kernel_rfl) (by kernel_rfl) (by kernel_rfl) (fun _ _ _ h => h) (by rfl) (v := ?_) (fun w hSw => ?_) (by assumption) ?_; rotate_left; (focus ((try dsimp only at hSw); go_simp; first | done | exact rfl)); simp only [List.set]
            refine wpAnyH_done (by kernel_rfl) ?_ _
            go_wp2_with fail
            go_meet
            exact ⟨_, _, _, _, _, rfl, rfl, Lib.hid hBR⟩
        · go_simp
          refine at_world (fun wa13 hwa => ?_)
          have hb : Below v11.heap.size v11 wa13 := by rw [hwa]; first | exact ((Below.refl _ _).alloc (Nat.le_refl _) _).drew | exact (Below.refl _ _).drew.alloc (by first | exact Nat.le_refl _ | simp) _
          have HSB := (⟨c11_0, c11_1, c11_2, c11_3, Nat.le_refl _, Below.refl _ _⟩ :  v11.cell? ⟨w.heap.size, 0, none⟩ = some (.slice ad n cp) ∧ v11.cell? ⟨w.heap.size + 1, 0, none⟩ = some (.int .i64 z0) ∧ v11.cell? ⟨w.heap.size + 1, 1, none⟩ = some (.int .i64 z1) ∧ v11.cell? ⟨w.heap.size + 1, 2, none⟩ = some (.int .i64 z2) ∧ v11.heap.size ≤ v11.heap.size ∧ Below v11.heap.size v11 v11)
          have bc : wa13.cell? ⟨v11.heap.size, 0, none⟩ = some (.slice none 0 0) := by rw [hwa]; simp
          have bf : wa13.frozen? ⟨v11.heap.size, 0, none⟩ = false := by rw [hwa]; simp [go_sem]
          have hbz : v11.heap.size < wa13.heap.size := by rw [hwa]; simp
          have hzz := hb.size
          have hbb : v11.heap.size ≤ v11.heap.size := by first | exact Nat.le_refl _ | (have hq := (rr4_out (by assumption)).1; omega)
          have hSn :  wa13.cell? ⟨w.heap.size, 0, none⟩ = some (.slice ad n cp) ∧ wa13.cell? ⟨w.heap.size + 1, 0, none⟩ = some (.int .i64 z0) ∧ wa13.cell? ⟨w.heap.size + 1, 1, none⟩ = some (.int .i64 z1) ∧ wa13.cell? ⟨w.heap.size + 1, 2, none⟩ = some (.int .i64 z2) ∧ v11.heap.size ≤ wa13.heap.size ∧ Below v11.heap.size v11 wa13 := by rw [hwa]; first | exact rr4_drew (rr4_box (by omega) (by omega) (by omega) (by omega) HSB) | exact rr4_box (by omega) (by omega) (by omega) (by omega) (by assumption)
          clear hwa
          clear HSB
          refine hK.out _ _ ?_ (fun hHeld => ?_)
          · (first | assumption | exact rr4_start c11_0 c11_1 c11_2 c11_3 | exact rr4_drew (by assumption) | exact rr4_keep (by omega) (by omega) (by omega) (by omega) hb (by assumption) | exact rr4_store (by omega) (by omega) (by omega) (by omega) (by omega) (by assumption) | fail)
          clear hK Kc
          refine wpAnyH_ready (rs := [1]) (by kernel_rfl) (by simp) ?_
          refine AllReadyH.cons rfl (fun Kc hK => ?_) (AllReadyH.nil)
          go_simp
          go_at_call 13
          refine (toTable_any _ n Z _ (HA.out.below (B11.out.trans ((rr4_out (by assumption)).2.mono (by omega)))) hn).mono ?_
          rintro e wr14 ⟨yv, rfl, ry, hb⟩
          have hzz := hb.size
          replace bc : wr14.cell? ⟨v11.heap.size, 0, none⟩ = some (.slice none 0 0) := by rw [hb.cell (p := ⟨v11.heap.size, 0, none⟩) hbz]; exact bc
          replace bf : wr14.frozen? ⟨v11.heap.size, 0, none⟩ = false := by rw [hb.frozen (p := ⟨v11.heap.size, 0, none⟩) hbz]; exact bf
          replace hbz : v11.heap.size < wr14.heap.size := Nat.lt_of_lt_of_le hbz hb.size
          refine hK.out _ _ ?_ (fun hHeld => ?_)
          · (first | assumption | exact rr4_start c11_0 c11_1 c11_2 c11_3 | exact rr4_drew (by assumption) | exact rr4_keep (by omega) (by omega) (by omega) (by omega) hb (by assumption) | exact rr4_store (by omega) (by omega) (by omega) (by omega) (by omega) (by assumption) | fail)
          clear hK Kc
          refine wpAnyH_ready (rs := [3]) (by kernel_rfl) (by simp) ?_
          refine AllReadyH.cons rfl (fun Kc hK => ?_) (AllReadyH.nil)
          go_simp
          go_at_call 20
          refine (toRoute_any z0 z1 z2 _).mono ?_
          rintro e wr15 ⟨rfl, hb⟩
          have hzz := hb.size
          replace ry := ry.below hb (by first | exact Nat.le_refl _ | omega)
          replace bc : wr15.cell? ⟨v11.heap.size, 0, none⟩ = some (.slice none 0 0) := by rw [hb.cell (p := ⟨v11.heap.size, 0, none⟩) hbz]; exact bc
          replace bf : wr15.frozen? ⟨v11.heap.size, 0, none⟩ = false := by rw [hb.frozen (p := ⟨v11.heap.size, 0, none⟩) hbz]; exact bf
          replace hbz : v11.heap.size < wr15.heap.size := Nat.lt_of_lt_of_le hbz hb.size
          refine hK.out _ _ ?_ (fun hHeld => ?_)
          · (first | assumption | exact rr4_start c11_0 c11_1 c11_2 c11_3 | exact rr4_drew (by assumption) | exact rr4_keep (by omega) (by omega) (by omega) (by omega) hb (by assumption) | exact rr4_store (by omega) (by omega) (by omega) (by omega) (by omega) (by assumption) | fail)
          clear hK Kc
          refine wpAnyH_ready (rs := [4]) (by kernel_rfl) (by simp) ?_
          refine AllReadyH.cons rfl (fun Kc hK => ?_) (AllReadyH.nil)
          go_simp
          go_at_call 21
          refine (Hi.out _ _ _ _ ry (by first | exact Nat.le_refl _ | omega)).mono ?_
          rintro e wr16 ⟨qv, rfl, rq, hb⟩
          have hzz := hb.size
          obtain ⟨qa, qc, rfl⟩ := rq.slice
          have hbz0 := hbz
          replace ry := ry.below hb (by first | exact Nat.le_refl _ | omega)
          replace bc : wr16.cell? ⟨v11.heap.size, 0, none⟩ = some (.slice none 0 0) := by rw [hb.cell (p := ⟨v11.heap.size, 0, none⟩) hbz]; exact bc
          replace bf : wr16.frozen? ⟨v11.heap.size, 0, none⟩ = false := by rw [hb.frozen (p := ⟨v11.heap.size, 0, none⟩) hbz]; exact bf
          replace hbz : v11.heap.size < wr16.heap.size := Nat.lt_of_lt_of_le hbz hb.size
          refine hK.out _ _ ?_ (fun hHeld => ?_)
          · (first | assumption | exact rr4_start c11_0 c11_1 c11_2 c11_3 | exact rr4_drew (by assumption) | exact rr4_keep (by omega) (by omega) (by omega) (by omega) hb (by assumption) | exact rr4_store (by omega) (by omega) (by omega) (by omega) (by omega) (by assumption) | fail)
          clear hK Kc
          refine step_read 5 79 rfl rfl (by kernel_rfl) (by kernel_rfl) (by kernel_rfl) (fun _ _ _ h => h) (by rfl) (v := ?_) (fun w hSw => ?_) (by assumption) ?_; rotate_left; (focus ((try dsimp only at hSw); go_simp; first | done | exact rfl)); simp only [List.set]
          refine step_read 6 85 rfl rfl (by kernel_rfl) (by kernel_rfl) (by kernel_rfl) (fun _ _ _ h => h) (by rfl) (v := ?_) (fun w hSw => ?_) (by assumption) ?_; rotate_left; (focus ((try dsimp only at hSw); go_simp; first | done | exact rfl)); simp only [List.set]
          refine step_read 7 86 rfl rfl (by kernel_rfl) (by kernel_rfl) (by kernel_rfl) (fun _ _ _ h => h) (by rfl) (v := ?_) (fun w hSw => ?_) (by assumption) ?_; rotate_left; (focus ((try dsimp only at hSw); go_simp; first | done | exact rfl)); simp only [List.set]
          refine wpAnyH_ready (rs := [9]) (by kernel_rfl) (by simp) ?_
          refine AllReadyH.cons rfl (fun Kc hK => ?_) (AllReadyH.nil)
          go_simp
          refine at_world (fun ws17 hwa => ?_)
          have hBR := BoxR.mk' hwa rq (base := v11) (by have hq := (rr4_out (by assumption)).1; omega) (by omega) hbb (by omega) (by omega) bc (rr4_out (by assumption)).2
          have hSn :  ws17.cell? ⟨w.heap.size, 0, none⟩ = some (.slice ad n cp) ∧ ws17.cell? ⟨w.heap.size + 1, 0, none⟩ = some (.int .i64 z0) ∧ ws17.cell? ⟨w.heap.size + 1, 1, none⟩ = some (.int .i64 z1) ∧ ws17.cell? ⟨w.heap.size + 1, 2, none⟩ = some (.int .i64 z2) ∧ v11.heap.size ≤ ws17.heap.size ∧ Below v11.heap.size v11 ws17 := by rw [hwa]; exact rr4_store (by omega) (by omega) (by omega) (by omega) hbb (by assumption)
          clear hwa
          refine hK.out _ _ ?_ (fun hHeld => ?_)
          · (first | assumption | exact rr4_start c11_0 c11_1 c11_2 c11_3 | exact rr4_drew (by assumption) | exact rr4_keep (by omega) (by omega) (by omega) (by omega) hb (by assumption) | exact rr4_store (by omega) (by omega) (by omega) (by omega) (by omega) (by assumption) | fail)
          clear hK Kc
          refine step_read 10 15 rfl rfl (by kernel_rfl) (by kernel_rfl) (by kernel_rfl) (fun _ _ _ h => h) (by rfl) (v := ?_) (fun w hSw => ?_) (by assumption) ?_; rotate_left; (focus ((try dsimp only at hSw); go_simp; first | done | exact rfl)); simp only [List.set]
          refine wpAnyH_done (by kernel_rfl) ?_ _
          go_wp2_with fail
          go_meet
          exact ⟨_, _, _, _, _, rfl, rfl, Lib.hid hBR⟩
      case rest =>
        obtain ⟨xH, loH, hiH, vaH, vcH, rfl, rfl, hBR⟩ := hcut
        obtain ⟨v12, rfl⟩ : ∃ x, x = wc := ⟨_, rfl⟩
        obtain ⟨br, b1, b2, b3, b4, b5, b6, hb12⟩ := hBR.out
        clear hBR
        have sz12 : v11.heap.size ≤ v12.heap.size := hb12.size
        have st12 : Below v11.heap.size v11 v12 := hb12
        have c12_0 : v12.cell? ⟨w.heap.size, 0, none⟩ = some (.slice ad n cp) := by rw [(bcell st12).1 _ _ (by omega)]; exact c11_0
        have c12_1 : v12.cell? ⟨w.heap.size + 1, 0, none⟩ = some (.int .i64 z0) := by rw [(bcell st12).1 _ _ (by omega)]; exact c11_1
        have c12_2 : v12.cell? ⟨w.heap.size + 1, 1, none⟩ = some (.int .i64 z1) := by rw [(bcell st12).1 _ _ (by omega)]; exact c11_2
        have c12_3 : v12.cell? ⟨w.heap.size + 1, 2, none⟩ = some (.int .i64 z2) := by rw [(bcell st12).1 _ _ (by omega)]; exact c11_3
        have c12_4 : v12.cell? ⟨(xW), 0, none⟩ = some (.slice vaW m vcW) := by rw [(bcell st12).1 _ _ (by omega)]; exact c11_4
        have c12_5 : v12.cell? ⟨v3.heap.size, 0, none⟩ = some (.slice x8a n x8c) := by rw [(bcell st12).1 _ _ (by omega)]; exact c11_5
        have c12_6 : v12.cell? ⟨(xG), 0, none⟩ = some (.slice vaG m vcG) := by rw [(bcell st12).1 _ _ (by omega)]; exact c11_6
        have B12 : Hid (Below w.heap.size w v12) := B11.out.trans (st12.mono (by omega))
        have R12_0 : Hid (Row 3 v12 (loW) (hiW) (.slice vaW m vcW) m ZR) := R11_0.out.below st12 (by omega)
        have R12_1 : Hid (Row 3 v12 (v2.heap.size) (v3.heap.size) (.slice x8a n x8c) n (marks 1 (n * 3))) := R11_1.out.below st12 (by omega)
        have R12_2 : Hid (Row 3 v12 (loG) (hiG) (.slice vaG m vcG) m (marks 1 (m * 3))) := R11_2.out.below st12 (by omega)
        have R12_3 : Hid (Row 3 v12 (loH) (hiH) (.slice vaH m vcH) m ZR) := br
        have d12_0 : w.heap.size < v12.heap.size := by omega
        have e12_0 : w.heap.size ≠ v12.heap.size := by omega
        have d12_1 : w.heap.size + 1 < v12.heap.size := by omega
        have e12_1 : w.heap.size + 1 ≠ v12.heap.size := by omega
        have d12_2 : (xW) < v12.heap.size := by omega
        have e12_2 : (xW) ≠ v12.heap.size := by omega
        have d12_3 : v3.heap.size < v12.heap.size := by omega
        have e12_3 : v3.heap.size ≠ v12.heap.size := by omega
        have d12_4 : (xG) < v12.heap.size := by omega
        have e12_4 : (xG) ≠ v12.heap.size := by omega
        clear d11_0 e11_0 d11_1 e11_1 d11_2 e11_2 d11_3 e11_3 d11_4 e11_4 c11_0 c11_1 c11_2 c11_3 c11_4 c11_5 c11_6 B11 st12 R11_0 R11_1 R11_2 br hb12
        have cbH : v12.cell? ⟨(xH), 0, none⟩ = some (.slice vaH m vcH) := b6
        clear b6
        have ddH : xH < v12.heap.size := b4
        have eeH : xH ≠ v12.heap.size := by omega
        go_wp2_with fail
        go_at_call 16
        refine (eqTable_same ZR m _ _ _ _ _ _ _ R12_3.out R12_0.out (by first | omega | (simp; omega) | simp) (by first | omega | (simp; omega) | simp)).mono ?_
        rintro e v13 ⟨rfl, hb13⟩
        have sz13 : v12.heap.size ≤ v13.heap.size := hb13.size
        have st13 : Below v12.heap.size v12 v13 := hb13
        have c13_0 : v13.cell? ⟨w.heap.size, 0, none⟩ = some (.slice ad n cp) := by rw [(bcell st13).1 _ _ (by omega)]; exact c12_0
        have c13_1 : v13.cell? ⟨w.heap.size + 1, 0, none⟩ = some (.int .i64 z0) := by rw [(bcell st13).1 _ _ (by omega)]; exact c12_1
        have c13_2 : v13.cell? ⟨w.heap.size + 1, 1, none⟩ = some (.int .i64 z1) := by rw [(bcell st13).1 _ _ (by omega)]; exact c12_2
        have c13_3 : v13.cell? ⟨w.heap.size + 1, 2, none⟩ = some (.int .i64 z2) := by rw [(bcell st13).1 _ _ (by omega)]; exact c12_3
        have c13_4 : v13.cell? ⟨(xW), 0, none⟩ = some (.slice vaW m vcW) := by rw [(bcell st13).1 _ _ (by omega)]; exact c12_4
        have c13_5 : v13.cell? ⟨v3.heap.size, 0, none⟩ = some (.slice x8a n x8c) := by rw [(bcell st13).1 _ _ (by omega)]; exact c12_5
        have c13_6 : v13.cell? ⟨(xG), 0, none⟩ = some (.slice vaG m vcG) := by rw [(bcell st13).1 _ _ (by omega)]; exact c12_6
        have c13_7 : v13.cell? ⟨(xH), 0, none⟩ = some (.slice vaH m vcH) := by rw [(bcell st13).1 _ _ (by omega)]; exact cbH
        have B13 : Hid (Below w.heap.size w v13) := B12.out.trans (st13.mono (by omega))
        have R13_0 : Hid (Row 3 v13 (loW) (hiW) (.slice vaW m vcW) m ZR) := R12_0.out.below st13 (by omega)
        have R13_1 : Hid (Row 3 v13 (v2.heap.size) (v3.heap.size) (.slice x8a n x8c) n (marks 1 (n * 3))) := R12_1.out.below st13 (by omega)
        have R13_2 : Hid (Row 3 v13 (loG) (hiG) (.slice vaG m vcG) m (marks 1 (m * 3))) := R12_2.out.below st13 (by omega)
        have R13_3 : Hid (Row 3 v13 (loH) (hiH) (.slice vaH m vcH) m ZR) := R12_3.out.below st13 (by omega)
        have d13_0 : w.heap.size < v13.heap.size := by omega
        have e13_0 : w.heap.size ≠ v13.heap.size := by omega
        have d13_1 : w.heap.size + 1 < v13.heap.size := by omega
        have e13_1 : w.heap.size + 1 ≠ v13.heap.size := by omega
        have d13_2 : (xW) < v13.heap.size := by omega
        have e13_2 : (xW) ≠ v13.heap.size := by omega
        have d13_3 : v3.heap.size < v13.heap.size := by omega
        have e13_3 : v3.heap.size ≠ v13.heap.size := by omega
        have d13_4 : (xG) < v13.heap.size := by omega
        have e13_4 : (xG) ≠ v13.heap.size := by omega
        have d13_5 : (xH) < v13.heap.size := by omega
        have e13_5 : (xH) ≠ v13.heap.size := by omega
        clear d12_0 e12_0 d12_1 e12_1 d12_2 e12_2 d12_3 e12_3 d12_4 e12_4 ddH eeH c12_0 c12_1 c12_2 c12_3 c12_4 c12_5 c12_6 cbH B12 st13 R12_0 R12_1 R12_2 R12_3 hb13
        go_wp2_with fail
        go_at_call 18
        refine (heldTable_K KG m _ _ _ _ HKG.out R13_2.out (by omega) (by omega)).mono ?_
        rintro e v14 ⟨rfl, hb14⟩
        have sz14 : v13.heap.size ≤ v14.heap.size := hb14.size
        have st14 : Below v13.heap.size v13 v14 := hb14
        have c14_0 : v14.cell? ⟨w.heap.size, 0, none⟩ = some (.slice ad n cp) := by rw [(bcell st14).1 _ _ (by omega)]; exact c13_0
        have c14_1 : v14.cell? ⟨w.heap.size + 1, 0, none⟩ = some (.int .i64 z0) := by rw [(bcell st14).1 _ _ (by omega)]; exact c13_1
        have c14_2 : v14.cell? ⟨w.heap.size + 1, 1, none⟩ = some (.int .i64 z1) := by rw [(bcell st14).1 _ _ (by omega)]; exact c13_2
        have c14_3 : v14.cell? ⟨w.heap.size + 1, 2, none⟩ = some (.int .i64 z2) := by rw [(bcell st14).1 _ _ (by omega)]; exact c13_3
        have c14_4 : v14.cell? ⟨(xW), 0, none⟩ = some (.slice vaW m vcW) := by rw [(bcell st14).1 _ _ (by omega)]; exact c13_4
        have c14_5 : v14.cell? ⟨v3.heap.size, 0, none⟩ = some (.slice x8a n x8c) := by rw [(bcell st14).1 _ _ (by omega)]; exact c13_5
        have c14_6 : v14.cell? ⟨(xG), 0, none⟩ = some (.slice vaG m vcG) := by rw [(bcell st14).1 _ _ (by omega)]; exact c13_6
        have c14_7 : v14.cell? ⟨(xH), 0, none⟩ = some (.slice vaH m vcH) := by rw [(bcell st14).1 _ _ (by omega)]; exact c13_7
        have B14 : Hid (Below w.heap.size w v14) := B13.out.trans (st14.mono (by omega))
        have R14_0 : Hid (Row 3 v14 (loW) (hiW) (.slice vaW m vcW) m ZR) := R13_0.out.below st14 (by omega)
        have R14_1 : Hid (Row 3 v14 (v2.heap.size) (v3.heap.size) (.slice x8a n x8c) n (marks 1 (n * 3))) := R13_1.out.below st14 (by omega)
        have R14_2 : Hid (Row 3 v14 (loG) (hiG) (.slice vaG m vcG) m (marks 1 (m * 3))) := R13_2.out.below st14 (by omega)
        have R14_3 : Hid (Row 3 v14 (loH) (hiH) (.slice vaH m vcH) m ZR) := R13_3.out.below st14 (by omega)
        have d14_0 : w.heap.size < v14.heap.size := by omega
        have e14_0 : w.heap.size ≠ v14.heap.size := by omega
        have d14_1 : w.heap.size + 1 < v14.heap.size := by omega
        have e14_1 : w.heap.size + 1 ≠ v14.heap.size := by omega
        have d14_2 : (xW) < v14.heap.size := by omega
        have e14_2 : (xW) ≠ v14.heap.size := by omega
        have d14_3 : v3.heap.size < v14.heap.size := by omega
        have e14_3 : v3.heap.size ≠ v14.heap.size := by omega
        have d14_4 : (xG) < v14.heap.size := by omega
        have e14_4 : (xG) ≠ v14.heap.size := by omega
        have d14_5 : (xH) < v14.heap.size := by omega
        have e14_5 : (xH) ≠ v14.heap.size := by omega
        clear d13_0 e13_0 d13_1 e13_1 d13_2 e13_2 d13_3 e13_3 d13_4 e13_4 d13_5 e13_5 c13_0 c13_1 c13_2 c13_3 c13_4 c13_5 c13_6 c13_7 B13 st14 R13_0 R13_1 R13_2 R13_3 hb14
        go_wp2_with fail
        go_ret
        exact ⟨rfl, B14.out⟩

set_option maxHeartbeats 2000000 in
theorem lawExactPutRoute_big0 (s : Value) (n : Nat) (Z : Nat → Int) (z0 z1 z2 : Int) (w : World) (hA : Arg 3 w s n Z) (hn : 1048576 < n) :
    Calls Try.prog 4 #[.agg #[s], .agg #[.int .i64 z0, .int .i64 z1, .int .i64 z2]] w fun e w' => e = .returned (.bool true) ∧ Below w.heap.size w w' := by
  have hx := hA.2.1
  obtain ⟨ad, cp, rfl⟩ := hA.slice
  clear hA
  have H0 := fun w => szTable_any ad n cp (1048576) w hx (by omega) (by omega)
  have hneg : (1048576 : Int) - (n : Int) < 0 := by omega
  simp only [if_pos hneg] at H0
  clear hneg
  go_enter Try.func4, Try.ntmps4
  go_wp2_with fail
  go_at_call 11
  refine (H0 _).mono ?_
  rintro e v1 ⟨rfl, hb1⟩
  have sz1 : w.heap.size + 2 ≤ v1.heap.size := by have hh := hb1.size; simp at hh; omega
  have st1 : Below w.heap.size w v1 := Below.trans (by go_grown) (hb1.mono (by simp <;> omega))
  have c1_0 : v1.cell? ⟨w.heap.size, 0, none⟩ = some (.slice ad n cp) := by rw [(bcell hb1).1 _ _ (by simp <;> omega), old_box (by simp <;> omega)]; first | (rw [new_at (by simp)]; rfl) | simp
  have c1_1 : v1.cell? ⟨w.heap.size + 1, 0, none⟩ = some (.int .i64 z0) := by rw [(bcell hb1).1 _ _ (by simp)]; first | (rw [new_at (by simp)]; rfl) | simp
  have c1_2 : v1.cell? ⟨w.heap.size + 1, 1, none⟩ = some (.int .i64 z1) := by rw [(bcell hb1).1 _ _ (by simp)]; first | (rw [new_at (by simp)]; rfl) | simp
  have c1_3 : v1.cell? ⟨w.heap.size + 1, 2, none⟩ = some (.int .i64 z2) := by rw [(bcell hb1).1 _ _ (by simp)]; first | (rw [new_at (by simp)]; rfl) | simp
  have B1 : Hid (Below w.heap.size w v1) := st1
  have d1_0 : w.heap.size < v1.heap.size := by omega
  have e1_0 : w.heap.size ≠ v1.heap.size := by omega
  have d1_1 : w.heap.size + 1 < v1.heap.size := by omega
  have e1_1 : w.heap.size + 1 ≠ v1.heap.size := by omega
  clear st1 hb1
  go_wp2_with fail
  go_ret
  exact ⟨rfl, B1.out⟩

end Go.Proofs.Ytgdnfglhlpnooaa
