/- The helpers of the laws over advertisements. -/
import Derived.Test.YtfpafjdakipccaaGl
import Derived.Test.YtfpafjdakipccaaGs
namespace Go.Proofs.Ytfpafjdakipccaa
open Go.RowKit
set_option maxHeartbeats 1000000 in
theorem szLsa_any (o s g : Int) (a a' : Option Addr) (n c m c' : Nat) (l : Int) (w : World) (hn : n <= maxLen) (hm : m <= maxLen) (h0 : 0 <= l) (h1 : l <= 1048576) :
    Calls Try.prog 28 #[.agg #[.int .i64 o, .int .i64 s, .int .i64 g, .slice a n c, .slice a' m c'], .int .i64 l] w fun e w' => e = .returned (.int .i64 (if l - (n : Int) - (m : Int) < 0 then -1 else l - (n : Int) - (m : Int))) /\ Below w.heap.size w w' := by
  have hmm : (-1 : Int) < 0 := by omega
  by_cases h : l - (n : Int) < 0
  · rw [if_pos (by omega)]
    have H := szLinkS_any a n c l
    simp only [if_pos h] at H
    go_enter Try.func28, Try.ntmps28
    go_wp2_with (go_at_call 67; refine (H _ hn h0 h1).mono ?_; rintro e w' ⟨rfl, rfl⟩)
    go_ret
    exact ⟨rfl, by go_grown⟩
  · have H := szLinkS_any a n c l
    simp only [if_neg h] at H
    by_cases h2 : l - (n : Int) - (m : Int) < 0
    · rw [if_pos h2]
      have H2 := szStubS_any a' m c' (l - (n : Int))
      simp only [if_pos h2] at H2
      go_enter Try.func28, Try.ntmps28
      go_wp2_with fail
      go_at_call 67
      refine (H _ hn h0 h1).mono ?_
      rintro e w' ⟨rfl, rfl⟩
      go_wp2_with fail
      go_at_call 68
      refine (H2 _ hm (by omega) (by omega)).mono ?_
      rintro e w' ⟨rfl, rfl⟩
      go_wp2
      go_ret
      exact ⟨rfl, by go_grown⟩
    · rw [if_neg h2]
      have H2 := szStubS_any a' m c' (l - (n : Int))
      simp only [if_neg h2] at H2
      go_enter Try.func28, Try.ntmps28
      go_wp2_with fail
      go_at_call 67
      refine (H _ hn h0 h1).mono ?_
      rintro e w' ⟨rfl, rfl⟩
      go_wp2_with fail
      go_at_call 68
      refine (H2 _ hm (by omega) (by omega)).mono ?_
      rintro e w' ⟨rfl, rfl⟩
      go_wp2
      go_ret
      exact ⟨rfl, by go_grown⟩
set_option maxHeartbeats 2000000 in
theorem toLsa_any (o s g : Int) (u v : Value) (n m : Nat) (Y Z : Nat -> Int) (w : World) (hA : LArg w u v n m Y Z) (hn : n <= 1048576) (hm : m <= 1048576) :
    Calls Try.prog 30 #[.agg #[.int .i64 o, .int .i64 s, .int .i64 g, u, v]] w fun e w' => ∃ ru rv, e = .returned (.agg #[.int .i64 o, .int .i64 s, .int .i64 g, ru, rv]) /\ LRow w' w.heap.size w'.heap.size ru rv n m ((List.range (n * 2)).map Y) ((List.range (m * 3)).map Z) /\ Below w.heap.size w w' := by
  have HA := Lib.hid hA
  obtain ⟨a, c, rfl⟩ := hA.1.slice
  obtain ⟨a', c', rfl⟩ := hA.2.slice
  clear hA
  go_enter Try.func30, Try.ntmps30
  go_wp2_with fail
  go_at_call 71
  refine (toLinkS_any _ n Y _ (HA.out.1.below (by go_grown)) hn).mono ?_
  rintro e v1 ⟨ru, rfl, hr1, hb1⟩
  have sz1 : w.heap.size + 3 <= v1.heap.size := by have hh := hb1.size; simp at hh; omega
  have st1 : Below w.heap.size w v1 := Below.trans (by go_grown) (hb1.mono (by simp <;> omega))
  have c1_0 : v1.cell? ⟨w.heap.size, 0, none⟩ = some (.int .i64 o) := by rw [(bcell hb1).1 _ _ (by simp <;> omega), old_box (by simp <;> omega), old_box (by simp <;> omega)]; first | (rw [new_at (by simp)]; rfl) | simp
  have c1_1 : v1.cell? ⟨w.heap.size, 1, none⟩ = some (.int .i64 s) := by rw [(bcell hb1).1 _ _ (by simp <;> omega), old_box (by simp <;> omega), old_box (by simp <;> omega)]; first | (rw [new_at (by simp)]; rfl) | simp
  have c1_2 : v1.cell? ⟨w.heap.size, 2, none⟩ = some (.int .i64 g) := by rw [(bcell hb1).1 _ _ (by simp <;> omega), old_box (by simp <;> omega), old_box (by simp <;> omega)]; first | (rw [new_at (by simp)]; rfl) | simp
  have c1_3 : v1.cell? ⟨w.heap.size, 3, none⟩ = some (.slice a n c) := by rw [(bcell hb1).1 _ _ (by simp <;> omega), old_box (by simp <;> omega), old_box (by simp <;> omega)]; first | (rw [new_at (by simp)]; rfl) | simp
  have c1_4 : v1.cell? ⟨w.heap.size, 4, none⟩ = some ((.slice a' m c')) := by rw [(bcell hb1).1 _ _ (by simp <;> omega), old_box (by simp <;> omega), old_box (by simp <;> omega)]; first | (rw [new_at (by simp)]; rfl) | simp
  have c1_5 : v1.cell? ⟨w.heap.size + 1, 0, none⟩ = some (.int .i64 0) := by rw [(bcell hb1).1 _ _ (by simp <;> omega), old_box (by simp <;> omega)]; first | (rw [new_at (by simp)]; rfl) | simp
  have c1_6 : v1.cell? ⟨w.heap.size + 1, 1, none⟩ = some (.int .i64 0) := by rw [(bcell hb1).1 _ _ (by simp <;> omega), old_box (by simp <;> omega)]; first | (rw [new_at (by simp)]; rfl) | simp
  have c1_7 : v1.cell? ⟨w.heap.size + 1, 2, none⟩ = some (.int .i64 0) := by rw [(bcell hb1).1 _ _ (by simp <;> omega), old_box (by simp <;> omega)]; first | (rw [new_at (by simp)]; rfl) | simp
  have c1_8 : v1.cell? ⟨w.heap.size + 1, 3, none⟩ = some (.slice none 0 0) := by rw [(bcell hb1).1 _ _ (by simp <;> omega), old_box (by simp <;> omega)]; first | (rw [new_at (by simp)]; rfl) | simp
  have c1_9 : v1.cell? ⟨w.heap.size + 1, 4, none⟩ = some (.slice none 0 0) := by rw [(bcell hb1).1 _ _ (by simp <;> omega), old_box (by simp <;> omega)]; first | (rw [new_at (by simp)]; rfl) | simp
  have c1_10 : v1.cell? ⟨w.heap.size + 1 + 1, 0, none⟩ = some (.int .i64 o) := by rw [(bcell hb1).1 _ _ (by simp)]; first | (rw [new_at (by simp)]; rfl) | simp
  have c1_11 : v1.cell? ⟨w.heap.size + 1 + 1, 1, none⟩ = some (.int .i64 s) := by rw [(bcell hb1).1 _ _ (by simp)]; first | (rw [new_at (by simp)]; rfl) | simp
  have c1_12 : v1.cell? ⟨w.heap.size + 1 + 1, 2, none⟩ = some (.int .i64 g) := by rw [(bcell hb1).1 _ _ (by simp)]; first | (rw [new_at (by simp)]; rfl) | simp
  have c1_13 : v1.cell? ⟨w.heap.size + 1 + 1, 3, none⟩ = some (.slice none 0 0) := by rw [(bcell hb1).1 _ _ (by simp)]; first | (rw [new_at (by simp)]; rfl) | simp
  have c1_14 : v1.cell? ⟨w.heap.size + 1 + 1, 4, none⟩ = some (.slice none 0 0) := by rw [(bcell hb1).1 _ _ (by simp)]; first | (rw [new_at (by simp)]; rfl) | simp
  have g1_0 : v1.frozen? ⟨w.heap.size + 1, 0, none⟩ = false := by rw [(bcell hb1).2 _ _ (by simp <;> omega), old_frz (by simp <;> omega), new_frz (by simp)]
  have g1_1 : v1.frozen? ⟨w.heap.size + 1, 1, none⟩ = false := by rw [(bcell hb1).2 _ _ (by simp <;> omega), old_frz (by simp <;> omega), new_frz (by simp)]
  have g1_2 : v1.frozen? ⟨w.heap.size + 1, 2, none⟩ = false := by rw [(bcell hb1).2 _ _ (by simp <;> omega), old_frz (by simp <;> omega), new_frz (by simp)]
  have g1_3 : v1.frozen? ⟨w.heap.size + 1, 3, none⟩ = false := by rw [(bcell hb1).2 _ _ (by simp <;> omega), old_frz (by simp <;> omega), new_frz (by simp)]
  have g1_4 : v1.frozen? ⟨w.heap.size + 1, 4, none⟩ = false := by rw [(bcell hb1).2 _ _ (by simp <;> omega), old_frz (by simp <;> omega), new_frz (by simp)]
  have g1_5 : v1.frozen? ⟨w.heap.size + 1 + 1, 0, none⟩ = false := by rw [(bcell hb1).2 _ _ (by simp), new_frz (by simp)]
  have g1_6 : v1.frozen? ⟨w.heap.size + 1 + 1, 1, none⟩ = false := by rw [(bcell hb1).2 _ _ (by simp), new_frz (by simp)]
  have g1_7 : v1.frozen? ⟨w.heap.size + 1 + 1, 2, none⟩ = false := by rw [(bcell hb1).2 _ _ (by simp), new_frz (by simp)]
  have g1_8 : v1.frozen? ⟨w.heap.size + 1 + 1, 3, none⟩ = false := by rw [(bcell hb1).2 _ _ (by simp), new_frz (by simp)]
  have g1_9 : v1.frozen? ⟨w.heap.size + 1 + 1, 4, none⟩ = false := by rw [(bcell hb1).2 _ _ (by simp), new_frz (by simp)]
  have B1 : Hid (Below w.heap.size w v1) := st1
  have R1_0 : Hid (Row 2 v1 (w.heap.size + 1 + 1 + 1) (v1.heap.size) ru n ((List.range (n * 2)).map Y)) := Lib.hid (hr1.wide (by simp) (Nat.le_refl _))
  have d1_0 : w.heap.size < v1.heap.size := by omega
  have e1_0 : w.heap.size ≠ v1.heap.size := by omega
  have d1_1 : w.heap.size + 1 < v1.heap.size := by omega
  have e1_1 : w.heap.size + 1 ≠ v1.heap.size := by omega
  have d1_2 : w.heap.size + 1 + 1 < v1.heap.size := by omega
  have e1_2 : w.heap.size + 1 + 1 ≠ v1.heap.size := by omega
  clear st1 hb1
  obtain ⟨ra, rc, rfl⟩ := R1_0.out.slice
  clear hr1
  go_wp2_with fail
  obtain ⟨q2, hq2⟩ : ∃ q, q = v1.setCell ⟨w.heap.size + 1 + 1, 3, none⟩ (.slice ra n rc) := ⟨_, rfl⟩
  have sz2 : v1.heap.size <= q2.heap.size := by rw [hq2]; simp [World.setCell]
  have szz2 : q2.heap.size <= v1.heap.size := by rw [hq2]; simp [World.setCell]
  have c2_0 : q2.cell? ⟨w.heap.size, 0, none⟩ = some (.int .i64 o) := by rw [hq2, World.cell?_setCell_other _ _ _ _ (by simp <;> omega)]; exact c1_0
  have c2_1 : q2.cell? ⟨w.heap.size, 1, none⟩ = some (.int .i64 s) := by rw [hq2, World.cell?_setCell_other _ _ _ _ (by simp <;> omega)]; exact c1_1
  have c2_2 : q2.cell? ⟨w.heap.size, 2, none⟩ = some (.int .i64 g) := by rw [hq2, World.cell?_setCell_other _ _ _ _ (by simp <;> omega)]; exact c1_2
  have c2_3 : q2.cell? ⟨w.heap.size, 3, none⟩ = some (.slice a n c) := by rw [hq2, World.cell?_setCell_other _ _ _ _ (by simp <;> omega)]; exact c1_3
  have c2_4 : q2.cell? ⟨w.heap.size, 4, none⟩ = some ((.slice a' m c')) := by rw [hq2, World.cell?_setCell_other _ _ _ _ (by simp <;> omega)]; exact c1_4
  have c2_5 : q2.cell? ⟨w.heap.size + 1, 0, none⟩ = some (.int .i64 0) := by rw [hq2, World.cell?_setCell_other _ _ _ _ (by simp <;> omega)]; exact c1_5
  have c2_6 : q2.cell? ⟨w.heap.size + 1, 1, none⟩ = some (.int .i64 0) := by rw [hq2, World.cell?_setCell_other _ _ _ _ (by simp <;> omega)]; exact c1_6
  have c2_7 : q2.cell? ⟨w.heap.size + 1, 2, none⟩ = some (.int .i64 0) := by rw [hq2, World.cell?_setCell_other _ _ _ _ (by simp <;> omega)]; exact c1_7
  have c2_8 : q2.cell? ⟨w.heap.size + 1, 3, none⟩ = some (.slice none 0 0) := by rw [hq2, World.cell?_setCell_other _ _ _ _ (by simp <;> omega)]; exact c1_8
  have c2_9 : q2.cell? ⟨w.heap.size + 1, 4, none⟩ = some (.slice none 0 0) := by rw [hq2, World.cell?_setCell_other _ _ _ _ (by simp <;> omega)]; exact c1_9
  have c2_10 : q2.cell? ⟨w.heap.size + 1 + 1, 0, none⟩ = some (.int .i64 o) := by rw [hq2, World.cell?_setCell_other _ _ _ _ (by simp <;> omega)]; exact c1_10
  have c2_11 : q2.cell? ⟨w.heap.size + 1 + 1, 1, none⟩ = some (.int .i64 s) := by rw [hq2, World.cell?_setCell_other _ _ _ _ (by simp <;> omega)]; exact c1_11
  have c2_12 : q2.cell? ⟨w.heap.size + 1 + 1, 2, none⟩ = some (.int .i64 g) := by rw [hq2, World.cell?_setCell_other _ _ _ _ (by simp <;> omega)]; exact c1_12
  have c2_13 : q2.cell? ⟨w.heap.size + 1 + 1, 3, none⟩ = some (.slice ra n rc) := by rw [hq2]; exact World.cell?_setCell_same' _ _ _ (by rw [c1_13]; rfl)
  have c2_14 : q2.cell? ⟨w.heap.size + 1 + 1, 4, none⟩ = some (.slice none 0 0) := by rw [hq2, World.cell?_setCell_other _ _ _ _ (by simp <;> omega)]; exact c1_14
  have g2_0 : q2.frozen? ⟨w.heap.size + 1, 0, none⟩ = false := by rw [hq2, World.frozen?_setCell]; exact g1_0
  have g2_1 : q2.frozen? ⟨w.heap.size + 1, 1, none⟩ = false := by rw [hq2, World.frozen?_setCell]; exact g1_1
  have g2_2 : q2.frozen? ⟨w.heap.size + 1, 2, none⟩ = false := by rw [hq2, World.frozen?_setCell]; exact g1_2
  have g2_3 : q2.frozen? ⟨w.heap.size + 1, 3, none⟩ = false := by rw [hq2, World.frozen?_setCell]; exact g1_3
  have g2_4 : q2.frozen? ⟨w.heap.size + 1, 4, none⟩ = false := by rw [hq2, World.frozen?_setCell]; exact g1_4
  have g2_5 : q2.frozen? ⟨w.heap.size + 1 + 1, 0, none⟩ = false := by rw [hq2, World.frozen?_setCell]; exact g1_5
  have g2_6 : q2.frozen? ⟨w.heap.size + 1 + 1, 1, none⟩ = false := by rw [hq2, World.frozen?_setCell]; exact g1_6
  have g2_7 : q2.frozen? ⟨w.heap.size + 1 + 1, 2, none⟩ = false := by rw [hq2, World.frozen?_setCell]; exact g1_7
  have g2_8 : q2.frozen? ⟨w.heap.size + 1 + 1, 3, none⟩ = false := by rw [hq2, World.frozen?_setCell]; exact g1_8
  have g2_9 : q2.frozen? ⟨w.heap.size + 1 + 1, 4, none⟩ = false := by rw [hq2, World.frozen?_setCell]; exact g1_9
  have B2 : Hid (Below w.heap.size w q2) := by have hh := B1.out.setCell (p := ⟨w.heap.size + 1 + 1, 3, none⟩) (by first | omega | (simp; done) | (simp; omega)) (.slice ra n rc); rw [<- hq2] at hh; exact Lib.hid hh
  have R2_0 : Hid (Row 2 q2 (w.heap.size + 1 + 1 + 1) (v1.heap.size) (.slice ra n rc) n ((List.range (n * 2)).map Y)) := by have hh := R1_0.out.setCell (p := ⟨w.heap.size + 1 + 1, 3, none⟩) (by first | (left; omega) | (right; omega) | (left; simp <;> omega) | (right; simp <;> omega)) (.slice ra n rc); rw [<- hq2] at hh; exact Lib.hid hh
  rw [<- hq2]
  have d2_0 : w.heap.size < q2.heap.size := by omega
  have e2_0 : w.heap.size ≠ q2.heap.size := by omega
  have d2_1 : w.heap.size + 1 < q2.heap.size := by omega
  have e2_1 : w.heap.size + 1 ≠ q2.heap.size := by omega
  have d2_2 : w.heap.size + 1 + 1 < q2.heap.size := by omega
  have e2_2 : w.heap.size + 1 + 1 ≠ q2.heap.size := by omega
  clear hq2 d1_0 e1_0 d1_1 e1_1 d1_2 e1_2 c1_0 c1_1 c1_2 c1_3 c1_4 c1_5 c1_6 c1_7 c1_8 c1_9 c1_10 c1_11 c1_12 c1_13 c1_14 g1_0 g1_1 g1_2 g1_3 g1_4 g1_5 g1_6 g1_7 g1_8 g1_9 B1 R1_0
  go_at_call 72
  refine (toStubS_any _ m Z _ (HA.out.2.below B2.out) hm).mono ?_
  rintro e v3 ⟨rv, rfl, hr2, hb3⟩
  have sz3 : q2.heap.size <= v3.heap.size := hb3.size
  have st3 : Below q2.heap.size q2 v3 := hb3
  have c3_0 : v3.cell? ⟨w.heap.size, 0, none⟩ = some (.int .i64 o) := by rw [(bcell st3).1 _ _ (by omega)]; exact c2_0
  have c3_1 : v3.cell? ⟨w.heap.size, 1, none⟩ = some (.int .i64 s) := by rw [(bcell st3).1 _ _ (by omega)]; exact c2_1
  have c3_2 : v3.cell? ⟨w.heap.size, 2, none⟩ = some (.int .i64 g) := by rw [(bcell st3).1 _ _ (by omega)]; exact c2_2
  have c3_3 : v3.cell? ⟨w.heap.size, 3, none⟩ = some (.slice a n c) := by rw [(bcell st3).1 _ _ (by omega)]; exact c2_3
  have c3_4 : v3.cell? ⟨w.heap.size, 4, none⟩ = some ((.slice a' m c')) := by rw [(bcell st3).1 _ _ (by omega)]; exact c2_4
  have c3_5 : v3.cell? ⟨w.heap.size + 1, 0, none⟩ = some (.int .i64 0) := by rw [(bcell st3).1 _ _ (by omega)]; exact c2_5
  have c3_6 : v3.cell? ⟨w.heap.size + 1, 1, none⟩ = some (.int .i64 0) := by rw [(bcell st3).1 _ _ (by omega)]; exact c2_6
  have c3_7 : v3.cell? ⟨w.heap.size + 1, 2, none⟩ = some (.int .i64 0) := by rw [(bcell st3).1 _ _ (by omega)]; exact c2_7
  have c3_8 : v3.cell? ⟨w.heap.size + 1, 3, none⟩ = some (.slice none 0 0) := by rw [(bcell st3).1 _ _ (by omega)]; exact c2_8
  have c3_9 : v3.cell? ⟨w.heap.size + 1, 4, none⟩ = some (.slice none 0 0) := by rw [(bcell st3).1 _ _ (by omega)]; exact c2_9
  have c3_10 : v3.cell? ⟨w.heap.size + 1 + 1, 0, none⟩ = some (.int .i64 o) := by rw [(bcell st3).1 _ _ (by omega)]; exact c2_10
  have c3_11 : v3.cell? ⟨w.heap.size + 1 + 1, 1, none⟩ = some (.int .i64 s) := by rw [(bcell st3).1 _ _ (by omega)]; exact c2_11
  have c3_12 : v3.cell? ⟨w.heap.size + 1 + 1, 2, none⟩ = some (.int .i64 g) := by rw [(bcell st3).1 _ _ (by omega)]; exact c2_12
  have c3_13 : v3.cell? ⟨w.heap.size + 1 + 1, 3, none⟩ = some (.slice ra n rc) := by rw [(bcell st3).1 _ _ (by omega)]; exact c2_13
  have c3_14 : v3.cell? ⟨w.heap.size + 1 + 1, 4, none⟩ = some (.slice none 0 0) := by rw [(bcell st3).1 _ _ (by omega)]; exact c2_14
  have g3_0 : v3.frozen? ⟨w.heap.size + 1, 0, none⟩ = false := by rw [(bcell st3).2 _ _ (by omega)]; exact g2_0
  have g3_1 : v3.frozen? ⟨w.heap.size + 1, 1, none⟩ = false := by rw [(bcell st3).2 _ _ (by omega)]; exact g2_1
  have g3_2 : v3.frozen? ⟨w.heap.size + 1, 2, none⟩ = false := by rw [(bcell st3).2 _ _ (by omega)]; exact g2_2
  have g3_3 : v3.frozen? ⟨w.heap.size + 1, 3, none⟩ = false := by rw [(bcell st3).2 _ _ (by omega)]; exact g2_3
  have g3_4 : v3.frozen? ⟨w.heap.size + 1, 4, none⟩ = false := by rw [(bcell st3).2 _ _ (by omega)]; exact g2_4
  have g3_5 : v3.frozen? ⟨w.heap.size + 1 + 1, 0, none⟩ = false := by rw [(bcell st3).2 _ _ (by omega)]; exact g2_5
  have g3_6 : v3.frozen? ⟨w.heap.size + 1 + 1, 1, none⟩ = false := by rw [(bcell st3).2 _ _ (by omega)]; exact g2_6
  have g3_7 : v3.frozen? ⟨w.heap.size + 1 + 1, 2, none⟩ = false := by rw [(bcell st3).2 _ _ (by omega)]; exact g2_7
  have g3_8 : v3.frozen? ⟨w.heap.size + 1 + 1, 3, none⟩ = false := by rw [(bcell st3).2 _ _ (by omega)]; exact g2_8
  have g3_9 : v3.frozen? ⟨w.heap.size + 1 + 1, 4, none⟩ = false := by rw [(bcell st3).2 _ _ (by omega)]; exact g2_9
  have B3 : Hid (Below w.heap.size w v3) := B2.out.trans (st3.mono (by omega))
  have R3_0 : Hid (Row 2 v3 (w.heap.size + 1 + 1 + 1) (v1.heap.size) (.slice ra n rc) n ((List.range (n * 2)).map Y)) := R2_0.out.below st3 (by omega)
  have R3_1 : Hid (Row 3 v3 (q2.heap.size) (v3.heap.size) rv m ((List.range (m * 3)).map Z)) := Lib.hid hr2
  have d3_0 : w.heap.size < v3.heap.size := by omega
  have e3_0 : w.heap.size ≠ v3.heap.size := by omega
  have d3_1 : w.heap.size + 1 < v3.heap.size := by omega
  have e3_1 : w.heap.size + 1 ≠ v3.heap.size := by omega
  have d3_2 : w.heap.size + 1 + 1 < v3.heap.size := by omega
  have e3_2 : w.heap.size + 1 + 1 ≠ v3.heap.size := by omega
  clear d2_0 e2_0 d2_1 e2_1 d2_2 e2_2 c2_0 c2_1 c2_2 c2_3 c2_4 c2_5 c2_6 c2_7 c2_8 c2_9 c2_10 c2_11 c2_12 c2_13 c2_14 g2_0 g2_1 g2_2 g2_3 g2_4 g2_5 g2_6 g2_7 g2_8 g2_9 B2 st3 R2_0 hb3
  obtain ⟨rb, rd, rfl⟩ := R3_1.out.slice
  clear hr2
  go_wp2_with fail
  obtain ⟨q4, hq4⟩ : ∃ q, q = v3.setCell ⟨w.heap.size + 1 + 1, 4, none⟩ (.slice rb m rd) := ⟨_, rfl⟩
  have sz4 : v3.heap.size <= q4.heap.size := by rw [hq4]; simp [World.setCell]
  have szz4 : q4.heap.size <= v3.heap.size := by rw [hq4]; simp [World.setCell]
  have c4_0 : q4.cell? ⟨w.heap.size, 0, none⟩ = some (.int .i64 o) := by rw [hq4, World.cell?_setCell_other _ _ _ _ (by simp <;> omega)]; exact c3_0
  have c4_1 : q4.cell? ⟨w.heap.size, 1, none⟩ = some (.int .i64 s) := by rw [hq4, World.cell?_setCell_other _ _ _ _ (by simp <;> omega)]; exact c3_1
  have c4_2 : q4.cell? ⟨w.heap.size, 2, none⟩ = some (.int .i64 g) := by rw [hq4, World.cell?_setCell_other _ _ _ _ (by simp <;> omega)]; exact c3_2
  have c4_3 : q4.cell? ⟨w.heap.size, 3, none⟩ = some (.slice a n c) := by rw [hq4, World.cell?_setCell_other _ _ _ _ (by simp <;> omega)]; exact c3_3
  have c4_4 : q4.cell? ⟨w.heap.size, 4, none⟩ = some ((.slice a' m c')) := by rw [hq4, World.cell?_setCell_other _ _ _ _ (by simp <;> omega)]; exact c3_4
  have c4_5 : q4.cell? ⟨w.heap.size + 1, 0, none⟩ = some (.int .i64 0) := by rw [hq4, World.cell?_setCell_other _ _ _ _ (by simp <;> omega)]; exact c3_5
  have c4_6 : q4.cell? ⟨w.heap.size + 1, 1, none⟩ = some (.int .i64 0) := by rw [hq4, World.cell?_setCell_other _ _ _ _ (by simp <;> omega)]; exact c3_6
  have c4_7 : q4.cell? ⟨w.heap.size + 1, 2, none⟩ = some (.int .i64 0) := by rw [hq4, World.cell?_setCell_other _ _ _ _ (by simp <;> omega)]; exact c3_7
  have c4_8 : q4.cell? ⟨w.heap.size + 1, 3, none⟩ = some (.slice none 0 0) := by rw [hq4, World.cell?_setCell_other _ _ _ _ (by simp <;> omega)]; exact c3_8
  have c4_9 : q4.cell? ⟨w.heap.size + 1, 4, none⟩ = some (.slice none 0 0) := by rw [hq4, World.cell?_setCell_other _ _ _ _ (by simp <;> omega)]; exact c3_9
  have c4_10 : q4.cell? ⟨w.heap.size + 1 + 1, 0, none⟩ = some (.int .i64 o) := by rw [hq4, World.cell?_setCell_other _ _ _ _ (by simp <;> omega)]; exact c3_10
  have c4_11 : q4.cell? ⟨w.heap.size + 1 + 1, 1, none⟩ = some (.int .i64 s) := by rw [hq4, World.cell?_setCell_other _ _ _ _ (by simp <;> omega)]; exact c3_11
  have c4_12 : q4.cell? ⟨w.heap.size + 1 + 1, 2, none⟩ = some (.int .i64 g) := by rw [hq4, World.cell?_setCell_other _ _ _ _ (by simp <;> omega)]; exact c3_12
  have c4_13 : q4.cell? ⟨w.heap.size + 1 + 1, 3, none⟩ = some (.slice ra n rc) := by rw [hq4, World.cell?_setCell_other _ _ _ _ (by simp <;> omega)]; exact c3_13
  have c4_14 : q4.cell? ⟨w.heap.size + 1 + 1, 4, none⟩ = some (.slice rb m rd) := by rw [hq4]; exact World.cell?_setCell_same' _ _ _ (by rw [c3_14]; rfl)
  have g4_0 : q4.frozen? ⟨w.heap.size + 1, 0, none⟩ = false := by rw [hq4, World.frozen?_setCell]; exact g3_0
  have g4_1 : q4.frozen? ⟨w.heap.size + 1, 1, none⟩ = false := by rw [hq4, World.frozen?_setCell]; exact g3_1
  have g4_2 : q4.frozen? ⟨w.heap.size + 1, 2, none⟩ = false := by rw [hq4, World.frozen?_setCell]; exact g3_2
  have g4_3 : q4.frozen? ⟨w.heap.size + 1, 3, none⟩ = false := by rw [hq4, World.frozen?_setCell]; exact g3_3
  have g4_4 : q4.frozen? ⟨w.heap.size + 1, 4, none⟩ = false := by rw [hq4, World.frozen?_setCell]; exact g3_4
  have g4_5 : q4.frozen? ⟨w.heap.size + 1 + 1, 0, none⟩ = false := by rw [hq4, World.frozen?_setCell]; exact g3_5
  have g4_6 : q4.frozen? ⟨w.heap.size + 1 + 1, 1, none⟩ = false := by rw [hq4, World.frozen?_setCell]; exact g3_6
  have g4_7 : q4.frozen? ⟨w.heap.size + 1 + 1, 2, none⟩ = false := by rw [hq4, World.frozen?_setCell]; exact g3_7
  have g4_8 : q4.frozen? ⟨w.heap.size + 1 + 1, 3, none⟩ = false := by rw [hq4, World.frozen?_setCell]; exact g3_8
  have g4_9 : q4.frozen? ⟨w.heap.size + 1 + 1, 4, none⟩ = false := by rw [hq4, World.frozen?_setCell]; exact g3_9
  have B4 : Hid (Below w.heap.size w q4) := by have hh := B3.out.setCell (p := ⟨w.heap.size + 1 + 1, 4, none⟩) (by first | omega | (simp; done) | (simp; omega)) (.slice rb m rd); rw [<- hq4] at hh; exact Lib.hid hh
  have R4_0 : Hid (Row 2 q4 (w.heap.size + 1 + 1 + 1) (v1.heap.size) (.slice ra n rc) n ((List.range (n * 2)).map Y)) := by have hh := R3_0.out.setCell (p := ⟨w.heap.size + 1 + 1, 4, none⟩) (by first | (left; omega) | (right; omega) | (left; simp <;> omega) | (right; simp <;> omega)) (.slice rb m rd); rw [<- hq4] at hh; exact Lib.hid hh
  have R4_1 : Hid (Row 3 q4 (q2.heap.size) (v3.heap.size) (.slice rb m rd) m ((List.range (m * 3)).map Z)) := by have hh := R3_1.out.setCell (p := ⟨w.heap.size + 1 + 1, 4, none⟩) (by first | (left; omega) | (right; omega) | (left; simp <;> omega) | (right; simp <;> omega)) (.slice rb m rd); rw [<- hq4] at hh; exact Lib.hid hh
  rw [<- hq4]
  have d4_0 : w.heap.size < q4.heap.size := by omega
  have e4_0 : w.heap.size ≠ q4.heap.size := by omega
  have d4_1 : w.heap.size + 1 < q4.heap.size := by omega
  have e4_1 : w.heap.size + 1 ≠ q4.heap.size := by omega
  have d4_2 : w.heap.size + 1 + 1 < q4.heap.size := by omega
  have e4_2 : w.heap.size + 1 + 1 ≠ q4.heap.size := by omega
  clear hq4 d3_0 e3_0 d3_1 e3_1 d3_2 e3_2 c3_0 c3_1 c3_2 c3_3 c3_4 c3_5 c3_6 c3_7 c3_8 c3_9 c3_10 c3_11 c3_12 c3_13 c3_14 g3_0 g3_1 g3_2 g3_3 g3_4 g3_5 g3_6 g3_7 g3_8 g3_9 B3 R3_0 R3_1
  go_wp2_with fail
  have HE : Hid (LRow q4 (w.heap.size + 1 + 1 + 1) v3.heap.size (.slice ra n rc) (.slice rb m rd) n m ((List.range (n * 2)).map Y) ((List.range (m * 3)).map Z)) := Lib.hid ⟨q2.heap.size, by omega, by omega, R4_0.out.wide (Nat.le_refl _) (by omega), R4_1.out⟩
  refine bodyPost_ret (v := .agg #[.int .i64 o, .int .i64 s, .int .i64 g, .slice ra n rc, .slice rb m rd]) (by simp [results, Try.results30, go_sem, *]) rfl ⟨_, _, rfl, ?_, ?_⟩
  · exact ((((((HE.out.setCell (.inl (by simp <;> omega)) _).setCell (.inl (by simp <;> omega)) _).setCell (.inl (by simp <;> omega)) _).setCell (.inl (by simp <;> omega)) _).setCell (.inl (by simp <;> omega)) _).wide (by omega) (by simp [World.setCell]; omega))
  · exact (((((B4.out.setCell (by simp <;> omega) _).setCell (by simp <;> omega) _).setCell (by simp <;> omega) _).setCell (by simp <;> omega) _).setCell (by simp <;> omega) _)
set_option maxHeartbeats 2000000 in
theorem eqLsa_same (o s g : Int) (Y Z : List Int) (n m lo hi lo' hi' : Nat) (u v u' v' : Value) (w : World) (hr : LRow w lo hi u v n m Y Z) (hr' : LRow w lo' hi' u' v' n m Y Z) (hh : hi <= w.heap.size) (hh' : hi' <= w.heap.size) :
    Calls Try.prog 24 #[.agg #[.int .i64 o, .int .i64 s, .int .i64 g, u, v], .agg #[.int .i64 o, .int .i64 s, .int .i64 g, u', v']] w fun e w' => e = .returned (.bool true) /\ Below w.heap.size w w' := by
  obtain ⟨a, c, a', c', rfl, rfl⟩ := hr.slice
  obtain ⟨b, d, b', d', rfl, rfl⟩ := hr'.slice
  have R0 := Lib.hid hr.fst
  have R2 := Lib.hid hr.snd
  have R1 := Lib.hid hr'.fst
  have R3 := Lib.hid hr'.snd
  clear hr hr'
  go_enter Try.func24, Try.ntmps24
  go_wp2_with fail
  go_at_call 60
  refine (eqLinkS_same Y n lo hi lo' hi' _ _ _ (R0.out.below (B := w.heap.size) (by go_grown) (by omega)) (R1.out.below (B := w.heap.size) (by go_grown) (by omega)) (by first | omega | (simp; omega)) (by first | omega | (simp; omega))).mono ?_
  rintro e v1 ⟨rfl, hb1⟩
  have sz1 : w.heap.size + 2 <= v1.heap.size := by have hh := hb1.size; simp at hh; omega
  have st1 : Below w.heap.size w v1 := Below.trans (by go_grown) (hb1.mono (by simp <;> omega))
  have c1_0 : v1.cell? ⟨w.heap.size, 0, none⟩ = some (.int .i64 o) := by rw [(bcell hb1).1 _ _ (by simp <;> omega), old_box (by simp <;> omega)]; first | (rw [new_at (by simp)]; rfl) | simp
  have c1_1 : v1.cell? ⟨w.heap.size, 1, none⟩ = some (.int .i64 s) := by rw [(bcell hb1).1 _ _ (by simp <;> omega), old_box (by simp <;> omega)]; first | (rw [new_at (by simp)]; rfl) | simp
  have c1_2 : v1.cell? ⟨w.heap.size, 2, none⟩ = some (.int .i64 g) := by rw [(bcell hb1).1 _ _ (by simp <;> omega), old_box (by simp <;> omega)]; first | (rw [new_at (by simp)]; rfl) | simp
  have c1_3 : v1.cell? ⟨w.heap.size, 3, none⟩ = some (.slice a n c) := by rw [(bcell hb1).1 _ _ (by simp <;> omega), old_box (by simp <;> omega)]; first | (rw [new_at (by simp)]; rfl) | simp
  have c1_4 : v1.cell? ⟨w.heap.size, 4, none⟩ = some ((.slice a' m c')) := by rw [(bcell hb1).1 _ _ (by simp <;> omega), old_box (by simp <;> omega)]; first | (rw [new_at (by simp)]; rfl) | simp
  have c1_5 : v1.cell? ⟨w.heap.size + 1, 0, none⟩ = some (.int .i64 o) := by rw [(bcell hb1).1 _ _ (by simp)]; first | (rw [new_at (by simp)]; rfl) | simp
  have c1_6 : v1.cell? ⟨w.heap.size + 1, 1, none⟩ = some (.int .i64 s) := by rw [(bcell hb1).1 _ _ (by simp)]; first | (rw [new_at (by simp)]; rfl) | simp
  have c1_7 : v1.cell? ⟨w.heap.size + 1, 2, none⟩ = some (.int .i64 g) := by rw [(bcell hb1).1 _ _ (by simp)]; first | (rw [new_at (by simp)]; rfl) | simp
  have c1_8 : v1.cell? ⟨w.heap.size + 1, 3, none⟩ = some (.slice b n d) := by rw [(bcell hb1).1 _ _ (by simp)]; first | (rw [new_at (by simp)]; rfl) | simp
  have c1_9 : v1.cell? ⟨w.heap.size + 1, 4, none⟩ = some ((.slice b' m d')) := by rw [(bcell hb1).1 _ _ (by simp)]; first | (rw [new_at (by simp)]; rfl) | simp
  have B1 : Hid (Below w.heap.size w v1) := st1
  have R1_0 : Hid (Row 2 v1 (lo) (hi) (.slice a n c) n Y) := R0.out.below st1 (by omega)
  have R1_1 : Hid (Row 2 v1 (lo') (hi') (.slice b n d) n Y) := R1.out.below st1 (by omega)
  have R1_2 : Hid (Row 3 v1 (lo) (hi) (.slice a' m c') m Z) := R2.out.below st1 (by omega)
  have R1_3 : Hid (Row 3 v1 (lo') (hi') (.slice b' m d') m Z) := R3.out.below st1 (by omega)
  have d1_0 : w.heap.size < v1.heap.size := by omega
  have e1_0 : w.heap.size ≠ v1.heap.size := by omega
  have d1_1 : w.heap.size + 1 < v1.heap.size := by omega
  have e1_1 : w.heap.size + 1 ≠ v1.heap.size := by omega
  clear st1 R0 R1 R2 R3 hb1
  go_wp2_with fail
  go_at_call 61
  refine (eqStubS_same Z m lo hi lo' hi' _ _ _ R1_2.out R1_3.out (by first | omega | (simp; omega)) (by first | omega | (simp; omega))).mono ?_
  rintro e v2 ⟨rfl, hb2⟩
  have sz2 : v1.heap.size <= v2.heap.size := hb2.size
  have st2 : Below v1.heap.size v1 v2 := hb2
  have c2_0 : v2.cell? ⟨w.heap.size, 0, none⟩ = some (.int .i64 o) := by rw [(bcell st2).1 _ _ (by omega)]; exact c1_0
  have c2_1 : v2.cell? ⟨w.heap.size, 1, none⟩ = some (.int .i64 s) := by rw [(bcell st2).1 _ _ (by omega)]; exact c1_1
  have c2_2 : v2.cell? ⟨w.heap.size, 2, none⟩ = some (.int .i64 g) := by rw [(bcell st2).1 _ _ (by omega)]; exact c1_2
  have c2_3 : v2.cell? ⟨w.heap.size, 3, none⟩ = some (.slice a n c) := by rw [(bcell st2).1 _ _ (by omega)]; exact c1_3
  have c2_4 : v2.cell? ⟨w.heap.size, 4, none⟩ = some ((.slice a' m c')) := by rw [(bcell st2).1 _ _ (by omega)]; exact c1_4
  have c2_5 : v2.cell? ⟨w.heap.size + 1, 0, none⟩ = some (.int .i64 o) := by rw [(bcell st2).1 _ _ (by omega)]; exact c1_5
  have c2_6 : v2.cell? ⟨w.heap.size + 1, 1, none⟩ = some (.int .i64 s) := by rw [(bcell st2).1 _ _ (by omega)]; exact c1_6
  have c2_7 : v2.cell? ⟨w.heap.size + 1, 2, none⟩ = some (.int .i64 g) := by rw [(bcell st2).1 _ _ (by omega)]; exact c1_7
  have c2_8 : v2.cell? ⟨w.heap.size + 1, 3, none⟩ = some (.slice b n d) := by rw [(bcell st2).1 _ _ (by omega)]; exact c1_8
  have c2_9 : v2.cell? ⟨w.heap.size + 1, 4, none⟩ = some ((.slice b' m d')) := by rw [(bcell st2).1 _ _ (by omega)]; exact c1_9
  have B2 : Hid (Below w.heap.size w v2) := B1.out.trans (st2.mono (by omega))
  have R2_0 : Hid (Row 2 v2 (lo) (hi) (.slice a n c) n Y) := R1_0.out.below st2 (by omega)
  have R2_1 : Hid (Row 2 v2 (lo') (hi') (.slice b n d) n Y) := R1_1.out.below st2 (by omega)
  have R2_2 : Hid (Row 3 v2 (lo) (hi) (.slice a' m c') m Z) := R1_2.out.below st2 (by omega)
  have R2_3 : Hid (Row 3 v2 (lo') (hi') (.slice b' m d') m Z) := R1_3.out.below st2 (by omega)
  have d2_0 : w.heap.size < v2.heap.size := by omega
  have e2_0 : w.heap.size ≠ v2.heap.size := by omega
  have d2_1 : w.heap.size + 1 < v2.heap.size := by omega
  have e2_1 : w.heap.size + 1 ≠ v2.heap.size := by omega
  clear d1_0 e1_0 d1_1 e1_1 c1_0 c1_1 c1_2 c1_3 c1_4 c1_5 c1_6 c1_7 c1_8 c1_9 B1 st2 R1_0 R1_1 R1_2 R1_3 hb2
  go_wp2_with fail
  go_ret
  exact ⟨rfl, B2.out⟩
def lmY (n : Nat) : List Int := marks 1 (n * 2)
def lmZ (n m : Nat) : List Int := marks (1 + ((n * 2 : Nat) : Int)) (m * 3)
end Go.Proofs.Ytfpafjdakipccaa
