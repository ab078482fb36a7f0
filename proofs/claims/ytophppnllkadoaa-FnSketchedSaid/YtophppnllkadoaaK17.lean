/- The sketch of one key. -/
import Derived.Test.YtophppnllkadoaaK16
namespace Go.Proofs.Ytophppnllkadoaa
open Go.RowKit


theorem D0_zero {i j : Nat} (hi : i < 4) (hj : j < 16) : cellD D0 i j = 0 := by rw [D0_mat, cellD_mat _ hi hj]
set_option maxRecDepth 100000 in
set_option maxHeartbeats 4000000 in
theorem asketch_any (key num : Int) (w : World) (hk : keyB key = true) : Calls Try.prog 56 #[.agg #[.int .i64 key, .int .i64 num]] w fun e w' => ∃ rv, e = .returned (.agg #[rv, .int .i64 num]) ∧ KRow w' w.heap.size w'.heap.size rv 4 (oneD key num) ∧ Below w.heap.size w w' := by
  go_enter Try.func56, Try.ntmps56
  go_wp2_with fail
  go_at_call 17
  refine (inew4 _).mono ?_
  rintro e v11 ⟨vC, rfl, hr, hb11⟩
  have sz11 : w.heap.size + 2 ≤ v11.heap.size := by have hh := hb11.size; simp at hh; omega
  have st11 : Below w.heap.size w v11 := Below.trans (by go_grown) (hb11.mono (by simp <;> omega))
  have c11_0 : v11.cell? ⟨w.heap.size, 0, none⟩ = some (.int .i64 key) := by rw [(bcell hb11).1 _ _ (by simp <;> omega), old_box (by simp <;> omega)]; first | (rw [new_at (by simp)]; rfl) | simp
  have c11_1 : v11.cell? ⟨w.heap.size, 1, none⟩ = some (.int .i64 num) := by rw [(bcell hb11).1 _ _ (by simp <;> omega), old_box (by simp <;> omega)]; first | (rw [new_at (by simp)]; rfl) | simp
  have c11_2 : v11.cell? ⟨w.heap.size + 1, 0, none⟩ = some (.slice none 0 0) := by rw [(bcell hb11).1 _ _ (by simp)]; first | (rw [new_at (by simp)]; rfl) | simp
  have c11_3 : v11.cell? ⟨w.heap.size + 1, 1, none⟩ = some (.int .i64 0) := by rw [(bcell hb11).1 _ _ (by simp)]; first | (rw [new_at (by simp)]; rfl) | simp
  have g11_0 : v11.frozen? ⟨w.heap.size + 1, 0, none⟩ = false := by rw [(bcell hb11).2 _ _ (by simp), new_frz (by simp)]
  have g11_1 : v11.frozen? ⟨w.heap.size + 1, 1, none⟩ = false := by rw [(bcell hb11).2 _ _ (by simp), new_frz (by simp)]
  have B11 : Hid (Below w.heap.size w v11) := st11
  have R11_0 : Hid (KRow v11 (w.heap.size + 2) (v11.heap.size) vC 4 D0) := hr.wide (by simp) (Nat.le_refl _)
  have d11_0 : w.heap.size < v11.heap.size := by omega
  have e11_0 : w.heap.size ≠ v11.heap.size := by omega
  have d11_1 : w.heap.size + 1 < v11.heap.size := by omega
  have e11_1 : w.heap.size + 1 ≠ v11.heap.size := by omega
  clear st11 hb11
  obtain ⟨aC, cC, rfl⟩ := R11_0.out.slice
  have HCm : Hid (KRow v11 (w.heap.size + 2) (v11.heap.size) (.slice aC 4 cC) 4 (mat fun _ _ => 0)) := Lib.hid (by rw [← D0_mat]; exact R11_0.out)
  obtain ⟨G, _, _, eG, hG1, hG2, _⟩ := HCm.out.put (i := 0) (j := 0) (by decide) (by decide)
  subst eG
  clear HCm
  go_wp2_with fail
  obtain ⟨q12, hq12⟩ : ∃ q, q = (v11.alloc (.cells #[.slice (some ⟨G, 0, none⟩) 4 cC, .int .i64 num] 28)) := ⟨_, rfl⟩
  have hb12 : Below v11.heap.size v11 q12 := by rw [hq12]; go_grown
  have sz12 : v11.heap.size + 1 ≤ q12.heap.size := by rw [hq12]; simp
  have c12_0 : q12.cell? ⟨w.heap.size, 0, none⟩ = some (.int .i64 key) := by rw [(bcell hb12).1 _ _ (by omega)]; exact c11_0
  have c12_1 : q12.cell? ⟨w.heap.size, 1, none⟩ = some (.int .i64 num) := by rw [(bcell hb12).1 _ _ (by omega)]; exact c11_1
  have c12_2 : q12.cell? ⟨w.heap.size + 1, 0, none⟩ = some (.slice none 0 0) := by rw [(bcell hb12).1 _ _ (by omega)]; exact c11_2
  have c12_3 : q12.cell? ⟨w.heap.size + 1, 1, none⟩ = some (.int .i64 0) := by rw [(bcell hb12).1 _ _ (by omega)]; exact c11_3
  have c12_4 : q12.cell? ⟨v11.heap.size, 0, none⟩ = some (.slice (some ⟨G, 0, none⟩) 4 cC) := by rw [hq12, new_at (by simp)]; rfl
  have c12_5 : q12.cell? ⟨v11.heap.size, 1, none⟩ = some (.int .i64 num) := by rw [hq12, new_at (by simp)]; rfl
  have g12_0 : q12.frozen? ⟨w.heap.size + 1, 0, none⟩ = false := by rw [(bcell hb12).2 _ _ (by omega)]; exact g11_0
  have g12_1 : q12.frozen? ⟨w.heap.size + 1, 1, none⟩ = false := by rw [(bcell hb12).2 _ _ (by omega)]; exact g11_1
  have g12_2 : q12.frozen? ⟨v11.heap.size, 0, none⟩ = false := by rw [hq12, new_frz (by simp)]
  have g12_3 : q12.frozen? ⟨v11.heap.size, 1, none⟩ = false := by rw [hq12, new_frz (by simp)]
  have B12 : Hid (Below w.heap.size w q12) := Lib.hid (B11.out.trans (hb12.mono (by omega)))
  have R12_0 : Hid (KRow q12 (w.heap.size + 2) (v11.heap.size) (.slice (some ⟨G, 0, none⟩) 4 cC) 4 D0) := Lib.hid (R11_0.out.below hb12 (by omega))
  rw [← hq12]
  have d12_0 : w.heap.size < q12.heap.size := by omega
  have e12_0 : w.heap.size ≠ q12.heap.size := by omega
  have d12_1 : w.heap.size + 1 < q12.heap.size := by omega
  have e12_1 : w.heap.size + 1 ≠ q12.heap.size := by omega
  have d12_2 : v11.heap.size < q12.heap.size := by omega
  have e12_2 : v11.heap.size ≠ q12.heap.size := by omega
  clear hq12 hb12 d11_0 e11_0 d11_1 e11_1 c11_0 c11_1 c11_2 c11_3 g11_0 g11_1 B11 R11_0
  have HA0 := Lib.hid c12_0
  have HA1 := Lib.hid c12_1
  have HR0 := Lib.hid c12_2
  have HR1 := Lib.hid c12_3
  have HRf := Lib.hid g12_0
  have HRg := Lib.hid g12_1
  have HBX0 : Hid (BoxL q12 q12 (w.heap.size + 2) (v11.heap.size) (w.heap.size + 2) (v11.heap.size) (some ⟨G, 0, none⟩) cC num (akF D0 key num 0)) := by
    show BoxL _ _ _ _ _ _ _ _ _ _
    rw [akF_zero]
    exact ⟨Below.refl _ _, by omega, Nat.le_refl _, .inr (by omega), by omega, by omega, fun o ho => by rcases (show o = 0 ∨ o = 1 by omega) with rfl | rfl; exact g12_2; exact g12_3, c12_4, c12_5, by rw [mat_congr (fun i j hi hj => D0_zero hi hj), ← D0_mat]; exact R12_0.out⟩
  have HQB := B12
  clear c12_0 c12_1 c12_2 c12_3 c12_4 c12_5 g12_0 g12_1 g12_2 g12_3 R12_0 B12 d12_0 e12_0 d12_1 e12_1 d12_2 e12_2
  go_loopw [9] (fun i wr => ∃ k : Nat, k ≤ 4 ∧ i = .int .i64 (k : Int) ∧ Hid (BoxL q12 wr (w.heap.size + 2) (v11.heap.size) (w.heap.size + 2) (v11.heap.size) (some ⟨G, 0, none⟩) cC num (akF D0 key num k))) (fun i _ => 4 - (intOf i).toNat)
  case atStart => exact ⟨0, Nat.zero_le _, rfl, HBX0⟩
  case round =>
    obtain ⟨k, hkk, rfl, hBX⟩ := hrel
    clear HBX0
    have hXs := hBX.out.size
    have hHs := hBX.out.hi
    have hbl := hBX.out.below.size
    have x0 := hBX.out.c0
    have x1 := hBX.out.c1
    have hd0 : w.heap.size < wr.heap.size := by omega
    have hd1 : w.heap.size + 1 < wr.heap.size := by omega
    have a0 := hBX.out.keep (b := w.heap.size) (by omega) HA0.out
    have a1 := hBX.out.keep (b := w.heap.size) (by omega) HA1.out
    by_cases hlt : k < 4
    case neg =>
      obtain rfl : k = 4 := by omega
      have hge : ¬ (((4 : Nat) : Int) < 4) := by omega
      have RC : Hid (KRow wr (w.heap.size + 2) (v11.heap.size) (.slice (some ⟨G, 0, none⟩) 4 cC) 4 (oneD key num)) := by
        have h := hBX.out.row
        rw [mat_congr (akF_all D0 key num), mat_congr (g := fun i j => if j = colN i key then num else 0) (fun i j hi hj => by rw [D0_zero hi hj, Int.zero_add])] at h
        exact Lib.hid h
      have b0 := hBX.out.keep (b := w.heap.size + 1) (by omega) HR0.out
      have b1 := hBX.out.keep (b := w.heap.size + 1) (by omega) HR1.out
      have bf0 := hBX.out.keepf (b := w.heap.size + 1) (o := 0) (by omega) HRf.out
      have bf1 := hBX.out.keepf (b := w.heap.size + 1) (o := 1) (by omega) HRg.out
      have HBw : Hid (Below w.heap.size w wr) := HQB.out.trans (hBX.out.below.mono (by omega))
      clear hBX HA0 HA1 HR0 HR1 HRf HRg HQB
      obtain ⟨r0, r1, HRr, HBr⟩ := res2 (R := w.heap.size + 1) (t := num) HBw.out RC.out (by omega) (by omega) (by omega) (by omega) b0 b1
      clear RC
      go_wp2_with fail
      refine bodyPost_ret (v := .agg #[.slice (some ⟨G, 0, none⟩) 4 cC, .int .i64 num]) (by simp [results, Try.results56, go_sem, r0, r1]) rfl ⟨_, rfl, HRr.out, HBr.out⟩
    case pos =>
      obtain ⟨hce, hcb⟩ := colN_eq hlt hk
      obtain ⟨cl, hcl⟩ : ∃ cl, cl = colN k key := ⟨_, rfl⟩
      rw [← hcl] at hce hcb
      have HCE := Lib.hid hce
      obtain ⟨G2, ty, g, eG, hg1, hg2, hg3, hg4, t0, t1, tf, hput⟩ := hBX.out.drew.put hlt hcb
      obtain rfl : G = G2 := by simpa using eG
      have HN := Lib.hid ((hput num).congr (by rw [hcl]; exact akF_step D0 key num k (by rw [D0_zero hlt (by omega), Int.zero_add])))
      have t0' : wr.cell? ⟨G, k, none⟩ = some (.slice (some ⟨g, 0, none⟩) 16 ty) := t0
      have t1' : wr.cell? ⟨g, cl, none⟩ = some (.int .i64 (akF D0 key num k k cl)) := t1
      have tf' : wr.frozen? ⟨g, cl, none⟩ = false := tf
      have q0 : (0 : Int) ≤ (k : Int) := by omega
      have q1 : (k : Int) < 4 := by omega
      have q2 : (0 : Int) ≤ (cl : Int) := by omega
      have q3 : (cl : Int) < 16 := by omega
      clear hput hBX eG hcl hce t0 t1 tf
      go_wp2_with fail
      go_region_law (first | (go_simp; go_at_call 29; refine (icol_any _ _ _).mono ?_; rw [HCE.out]; rintro e w2 ⟨rfl, rfl⟩) | fail)
      all_goals
        go_wp2_with fail
        go_roundw
        case rel => exact ⟨k + 1, by omega, by go_num, HN⟩
        case measure => simp [intOf]; omega

end Go.Proofs.Ytophppnllkadoaa
