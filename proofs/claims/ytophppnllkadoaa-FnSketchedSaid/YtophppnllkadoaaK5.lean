/- New sketches. -/
import Derived.Test.YtophppnllkadoaaK4
namespace Go.Proofs.Ytophppnllkadoaa
open Go.RowKit


def Z16 : List Int := List.replicate 16 0
theorem Z16_len : Z16.length = 16 := by simp [Z16]
theorem rep_snoc (k : Nat) : List.replicate (k + 1) Z16 = List.replicate k Z16 ++ [Z16] := by rw [List.replicate_succ']
/-- A row of zeros that was just made. -/
theorem row_made (w : World) : Row 1 (w.alloc (.cells (Array.replicate 16 (.int .i64 0)) 3)) w.heap.size (w.alloc (.cells (Array.replicate 16 (.int .i64 0)) 3)).heap.size (.slice (some ⟨w.heap.size, 0, none⟩) Z16.length 16) Z16.length Z16 := by
  refine ⟨by simp, .inr ⟨w.heap.size, 16, rfl, Nat.le_refl _, by simp, by simp [Z16], fun q z hz => ?_, fun o => new_frz rfl⟩⟩
  rw [new_at rfl]
  have hq : q < 16 := by have := lt_of_at hz; simpa [Z16] using this
  have hz0 : z = 0 := by
    have := List.mem_of_getElem? hz
    exact (List.mem_replicate.1 this).2
  subst hz0
  simp [hq]

set_option maxRecDepth 100000 in
set_option maxHeartbeats 4000000 in
theorem snew_any (w : World) : Calls Try.prog 35 #[] w (SkPost 0 (List.replicate 4 Z16) w) := by
  obtain ⟨iI, hi0, hz0, hz1, hz2⟩ := info_parts Try.info41k
  have I := Lib.hid (And.intro hi0 (And.intro hz0 (And.intro hz1 hz2)))
  clear hi0 hz0 hz1 hz2
  have hmk : ∀ w : World, (Instr.makeSlice 41 (.int .i64 16) (.int .i64 16)).run Try.prog w = .ok (.slice (some ⟨w.heap.size, 0, none⟩) 16 16) (w.alloc (.cells (Array.replicate 16 (.int .i64 0)) 3)) := fun _ => by kernel_rfl
  go_enter Try.func35, Try.ntmps35
  go_wp2_with fail
  obtain ⟨w3, hw3⟩ : ∃ w3, w3 = (w.alloc (.cells #[.slice none 0 0, .int .i64 0] 28)).alloc (.cells #[.slice none 0 0, .int .i64 0] 28) := ⟨_, rfl⟩
  rw [← hw3]
  have y0 : w3.cell? ⟨w.heap.size + 1, 0, none⟩ = some (.slice none 0 0) := by rw [hw3]; simp [go_sem]
  have y1 : w3.cell? ⟨w.heap.size + 1, 1, none⟩ = some (.int .i64 0) := by rw [hw3]; simp [go_sem]
  have y2 : ∀ o, w3.frozen? ⟨w.heap.size + 1, o, none⟩ = false := fun o => by rw [hw3]; simp [go_sem]
  have HR0 : Hid (w3.cell? ⟨w.heap.size, 0, none⟩ = some (.slice none 0 0)) := by rw [hw3]; show _ = _; simp [go_sem]
  have HR1 : Hid (w3.cell? ⟨w.heap.size, 1, none⟩ = some (.int .i64 0)) := by rw [hw3]; show _ = _; simp [go_sem]
  have HRf : Hid (∀ o, w3.frozen? ⟨w.heap.size, o, none⟩ = false) := Lib.hid fun o => by rw [hw3]; simp [go_sem]
  have HB : Hid (Below w.heap.size w w3) := by rw [hw3]; show Below _ _ _; go_grown
  have hs3 : w3.heap.size = w.heap.size + 1 + 1 := by rw [hw3]; simp
  clear hw3
  obtain ⟨X, hX⟩ : ∃ X, X = w.heap.size + 1 := ⟨_, rfl⟩
  rw [← hX] at y0 y1 y2 ⊢
  have n2 : w.heap.size < X := by omega
  have n3 : w.heap.size ≠ X := by omega
  have n4 : X < w3.heap.size := by omega
  have n5 : w.heap.size < X := by omega
  clear hX
  have HO : Hid (OutK w3 w3 X 0 (List.replicate 0 Z16)) := OutK.start n4 y2 y0 y1
  clear hs3 y0 y1 y2
  go_loopw [2] (fun i wr => ∃ k : Nat, k ≤ 4 ∧ i = .int .i64 (k : Int) ∧ Hid (OutK w3 wr X 0 (List.replicate k Z16))) (fun i _ => 4 - (intOf i).toNat)
  case atStart => exact ⟨0, Nat.zero_le _, rfl, HO⟩
  case round =>
    obtain ⟨k, hk, rfl, hR⟩ := hrel
    have hBw : Below w.heap.size w wr := HB.out.trans (hR.out.1.mono (by omega))
    have hXl := hR.out.size
    have hsz := hBw.size
    by_cases hlt : k < 4
    case neg =>
      obtain rfl : k = 4 := by omega
      have HBw := Lib.hid hBw
      obtain ⟨ra, rc, hrv, hrow⟩ := hR.out.take (by simp)
      have hrt := hR.out.2.2.2.1
      rw [List.length_replicate] at hrv hrow
      have b0 := hR.out.keep n2 HR0.out
      have b1 := hR.out.keep n2 HR1.out
      have bf := fun o => hR.out.keepf (o := o) n2 (HRf.out o)
      have bf0 := bf 0
      have bf1 := bf 1
      have Hrow := Lib.hid hrow
      obtain ⟨wz, hwz⟩ : ∃ wz, wz = (wr.setCell ⟨w.heap.size, 0, none⟩ (.slice ra 4 rc)).setCell ⟨w.heap.size, 1, none⟩ (.int .i64 0) := ⟨_, rfl⟩
      have r0 : wz.cell? ⟨w.heap.size, 0, none⟩ = some (.slice ra 4 rc) := by rw [hwz, World.cell?_setCell_other _ _ _ _ (by simp)]; exact World.cell?_setCell_same' _ _ _ (by rw [b0]; rfl)
      have r1 : wz.cell? ⟨w.heap.size, 1, none⟩ = some (.int .i64 0) := by rw [hwz]; exact World.cell?_setCell_same' _ _ _ (by rw [World.cell?_setCell_other _ _ _ _ (by simp), b1]; rfl)
      have Hrow2 : Hid (KRow wz w.heap.size wz.heap.size (.slice ra 4 rc) 4 (List.replicate 4 Z16)) := by
        show KRow _ _ _ _ _ _
        rw [hwz]
        exact ((hrow.setCell (p := ⟨w.heap.size, 0, none⟩) (.inl (by show w.heap.size < X + 1; omega)) _).setCell (p := ⟨w.heap.size, 1, none⟩) (.inl (by show w.heap.size < X + 1; omega)) _).wide (by omega) (by simp [World.setCell])
      have HB2 : Hid (Below w.heap.size w wz) := by rw [hwz]; exact (HBw.out.setCell (by show _ ≤ w.heap.size; omega) _).setCell (by show _ ≤ w.heap.size; omega) _
      subst hwz
      clear hBw hrow hR bf
      go_wp2_with fail
      refine bodyPost_ret (v := .agg #[.slice ra 4 rc, .int .i64 0]) (by simp [results, Try.results35, go_sem, r0, r1]) rfl ⟨_, rfl, ?_, ?_⟩
      · rw [List.length_replicate]; exact Hrow2.out
      · exact HB2.out
    case pos =>
    have q0 : (0 : Int) ≤ (k : Int) := by omega
    have q1 : (k : Int) < 4 := by omega
    obtain ⟨rv, vs, bs, hrv, hst⟩ := hR.out.2.2.2.2
    obtain ⟨ra, rc, hra⟩ := own_slice hst.row
    subst hra
    have hfX := hR.out.2.2.1 0
    have HN := Lib.hid (rep_snoc k)
    rw [List.length_replicate] at hrv hst
    have KS := Lib.hid hst
    have HW : Hid (wr.ownsRow (X + 1) 41 1 (.slice ra k rc) k ((List.range k).map vs)) := by
      have hh := hst.row
      rw [List.length_replicate] at hh
      exact hh
    have hXq : X < wr.heap.size := by omega
    clear hst hBw
    have HLk : Hid ((List.replicate k Z16).length = k) := Lib.hid (by simp)
    go_wp2_with fail
    go_region_law ((refine step_append_lies _ rfl _ _ 26 rfl (X + 1) 41 iI (.slice none 0 0) 1 24 Try.underlying26 I.out.1 I.out.2.1 I.out.2.2.1 I.out.2.2.2 rfl (by decide) _ k ((List.range k).map vs) rfl ((HW.out.drew.alloc _).alloc _) ⟨wr.heap.size + 1, 0, none⟩ 1 1 [.slice (some ⟨wr.heap.size, 0, none⟩) 16 16] rfl rfl (fun j u hj => cell_one_new _ _ _ (by simp) j u hj) (slice_one _ _ _) (by decide) (by unfold maxLen; omega) (by omega) (by simp; omega) _ rfl ?_; intro g4 cap4 w4 hown4 hgrow4 hat4 hlt4; obtain ⟨⟨uu, hc4⟩, hf4, hF4⟩ := OutK.app (w2 := wr.drew.alloc (.cells (Array.replicate 16 (.int .i64 0)) 3)) hR.out.drew KS.out.drew ((Below.refl _ _).alloc (Nat.le_refl _) _) (row_made _) ((Below.refl _ _).alloc (Nat.le_refl _) _) hgrow4 rfl (hat4.imp id (fun e => by rw [e]; simp)) HLk.out.symm hown4; have HF := Lib.hid hF4; clear hF4 hown4 hgrow4 hat4 hlt4))
    all_goals
      go_wp2_with fail
      go_roundw
      case rel => exact ⟨k + 1, by omega, by go_num, by rw [HN.out]; exact HF.out⟩
      case measure => simp [intOf]; omega

set_option maxRecDepth 100000 in
set_option maxHeartbeats 4000000 in
theorem izero_any (w : World) : Calls Try.prog 53 #[.slice none 0 0] w (SkPost 0 (List.replicate 4 Z16) w) := by
  obtain ⟨iI, hi0, hz0, hz1, hz2⟩ := info_parts Try.info41k
  have I := Lib.hid (And.intro hi0 (And.intro hz0 (And.intro hz1 hz2)))
  clear hi0 hz0 hz1 hz2
  have hmk : ∀ w : World, (Instr.makeSlice 41 (.int .i64 16) (.int .i64 16)).run Try.prog w = .ok (.slice (some ⟨w.heap.size, 0, none⟩) 16 16) (w.alloc (.cells (Array.replicate 16 (.int .i64 0)) 3)) := fun _ => by kernel_rfl
  go_enter Try.func53, Try.ntmps53
  go_wp2_with fail
  obtain ⟨w3, hw3⟩ : ∃ w3, w3 = (w.alloc (.cells #[.slice none 0 0, .int .i64 0] 28)).alloc (.cells #[.slice none 0 0, .int .i64 0] 28) := ⟨_, rfl⟩
  rw [← hw3]
  have y0 : w3.cell? ⟨w.heap.size + 1, 0, none⟩ = some (.slice none 0 0) := by rw [hw3]; simp [go_sem]
  have y1 : w3.cell? ⟨w.heap.size + 1, 1, none⟩ = some (.int .i64 0) := by rw [hw3]; simp [go_sem]
  have y2 : ∀ o, w3.frozen? ⟨w.heap.size + 1, o, none⟩ = false := fun o => by rw [hw3]; simp [go_sem]
  have HR0 : Hid (w3.cell? ⟨w.heap.size, 0, none⟩ = some (.slice none 0 0)) := by rw [hw3]; show _ = _; simp [go_sem]
  have HR1 : Hid (w3.cell? ⟨w.heap.size, 1, none⟩ = some (.int .i64 0)) := by rw [hw3]; show _ = _; simp [go_sem]
  have HRf : Hid (∀ o, w3.frozen? ⟨w.heap.size, o, none⟩ = false) := Lib.hid fun o => by rw [hw3]; simp [go_sem]
  have HB : Hid (Below w.heap.size w w3) := by rw [hw3]; show Below _ _ _; go_grown
  have hs3 : w3.heap.size = w.heap.size + 1 + 1 := by rw [hw3]; simp
  clear hw3
  obtain ⟨X, hX⟩ : ∃ X, X = w.heap.size + 1 := ⟨_, rfl⟩
  rw [← hX] at y0 y1 y2 ⊢
  have n2 : w.heap.size < X := by omega
  have n3 : w.heap.size ≠ X := by omega
  have n4 : X < w3.heap.size := by omega
  have n5 : w.heap.size < X := by omega
  clear hX
  have HO : Hid (OutK w3 w3 X 0 (List.replicate 0 Z16)) := OutK.start n4 y2 y0 y1
  clear hs3 y0 y1 y2
  go_loopw [10] (fun i wr => ∃ k : Nat, k ≤ 4 ∧ i = .int .i64 (k : Int) ∧ Hid (OutK w3 wr X 0 (List.replicate k Z16))) (fun i _ => 4 - (intOf i).toNat)
  case atStart => exact ⟨0, Nat.zero_le _, rfl, HO⟩
  case round =>
    obtain ⟨k, hk, rfl, hR⟩ := hrel
    have hBw : Below w.heap.size w wr := HB.out.trans (hR.out.1.mono (by omega))
    have hXl := hR.out.size
    have hsz := hBw.size
    by_cases hlt : k < 4
    case neg =>
      obtain rfl : k = 4 := by omega
      have HBw := Lib.hid hBw
      obtain ⟨ra, rc, hrv, hrow⟩ := hR.out.take (by simp)
      have hrt := hR.out.2.2.2.1
      rw [List.length_replicate] at hrv hrow
      have b0 := hR.out.keep n2 HR0.out
      have b1 := hR.out.keep n2 HR1.out
      have bf := fun o => hR.out.keepf (o := o) n2 (HRf.out o)
      have bf0 := bf 0
      have bf1 := bf 1
      have Hrow := Lib.hid hrow
      obtain ⟨wz, hwz⟩ : ∃ wz, wz = (wr.setCell ⟨w.heap.size, 0, none⟩ (.slice ra 4 rc)).setCell ⟨w.heap.size, 1, none⟩ (.int .i64 0) := ⟨_, rfl⟩
      have r0 : wz.cell? ⟨w.heap.size, 0, none⟩ = some (.slice ra 4 rc) := by rw [hwz, World.cell?_setCell_other _ _ _ _ (by simp)]; exact World.cell?_setCell_same' _ _ _ (by rw [b0]; rfl)
      have r1 : wz.cell? ⟨w.heap.size, 1, none⟩ = some (.int .i64 0) := by rw [hwz]; exact World.cell?_setCell_same' _ _ _ (by rw [World.cell?_setCell_other _ _ _ _ (by simp), b1]; rfl)
      have Hrow2 : Hid (KRow wz w.heap.size wz.heap.size (.slice ra 4 rc) 4 (List.replicate 4 Z16)) := by
        show KRow _ _ _ _ _ _
        rw [hwz]
        exact ((hrow.setCell (p := ⟨w.heap.size, 0, none⟩) (.inl (by show w.heap.size < X + 1; omega)) _).setCell (p := ⟨w.heap.size, 1, none⟩) (.inl (by show w.heap.size < X + 1; omega)) _).wide (by omega) (by simp [World.setCell])
      have HB2 : Hid (Below w.heap.size w wz) := by rw [hwz]; exact (HBw.out.setCell (by show _ ≤ w.heap.size; omega) _).setCell (by show _ ≤ w.heap.size; omega) _
      subst hwz
      clear hBw hrow hR bf
      go_wp2_with fail
      go_loopw [21] (fun i wq => i = .int .i64 0 ∧ wq = wr) (fun _ _ => 0)
      case atStart => exact ⟨rfl, rfl⟩
      case round =>
      obtain ⟨rfl, rfl⟩ := hrel
      go_wp2_with fail
      refine bodyPost_ret (v := .agg #[.slice ra 4 rc, .int .i64 0]) (by simp [results, Try.results53, go_sem, r0, r1]) rfl ⟨_, rfl, ?_, ?_⟩
      · rw [List.length_replicate]; exact Hrow2.out
      · exact HB2.out
    case pos =>
    have q0 : (0 : Int) ≤ (k : Int) := by omega
    have q1 : (k : Int) < 4 := by omega
    obtain ⟨rv, vs, bs, hrv, hst⟩ := hR.out.2.2.2.2
    obtain ⟨ra, rc, hra⟩ := own_slice hst.row
    subst hra
    have hfX := hR.out.2.2.1 0
    have HN := Lib.hid (rep_snoc k)
    rw [List.length_replicate] at hrv hst
    have KS := Lib.hid hst
    have HW : Hid (wr.ownsRow (X + 1) 41 1 (.slice ra k rc) k ((List.range k).map vs)) := by
      have hh := hst.row
      rw [List.length_replicate] at hh
      exact hh
    have hXq : X < wr.heap.size := by omega
    clear hst hBw
    have HLk : Hid ((List.replicate k Z16).length = k) := Lib.hid (by simp)
    go_wp2_with fail
    go_region_law ((refine step_append_lies _ rfl _ _ 26 rfl (X + 1) 41 iI (.slice none 0 0) 1 24 Try.underlying26 I.out.1 I.out.2.1 I.out.2.2.1 I.out.2.2.2 rfl (by decide) _ k ((List.range k).map vs) rfl ((HW.out.drew.alloc _).alloc _) ⟨wr.heap.size + 1, 0, none⟩ 1 1 [.slice (some ⟨wr.heap.size, 0, none⟩) 16 16] rfl rfl (fun j u hj => cell_one_new _ _ _ (by simp) j u hj) (slice_one _ _ _) (by decide) (by unfold maxLen; omega) (by omega) (by simp; omega) _ rfl ?_; intro g4 cap4 w4 hown4 hgrow4 hat4 hlt4; obtain ⟨⟨uu, hc4⟩, hf4, hF4⟩ := OutK.app (w2 := wr.drew.alloc (.cells (Array.replicate 16 (.int .i64 0)) 3)) hR.out.drew KS.out.drew ((Below.refl _ _).alloc (Nat.le_refl _) _) (row_made _) ((Below.refl _ _).alloc (Nat.le_refl _) _) hgrow4 rfl (hat4.imp id (fun e => by rw [e]; simp)) HLk.out.symm hown4; have HF := Lib.hid hF4; clear hF4 hown4 hgrow4 hat4 hlt4))
    all_goals
      go_wp2_with fail
      go_roundw
      case rel => exact ⟨k + 1, by omega, by go_num, by rw [HN.out]; exact HF.out⟩
      case measure => simp [intOf]; omega

end Go.Proofs.Ytophppnllkadoaa
