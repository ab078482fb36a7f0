/- AddKey of the program. -/
import Derived.Test.YtophppnllkadoaaK17
namespace Go.Proofs.Ytophppnllkadoaa
open Go.RowKit


theorem mg_ak {t key num : Int} (D : List (List Int)) (hk : keyB key = true) (hn : inB num 1 1000000 = true) : akT t D key num = mgT t D num (oneD key num) ∧ akD t D key num = mgD t D num (oneD key num) ∧ akB t D key num = mgB t D num (oneD key num) := by
  have e : akB t D key num = mgB t D num (oneD key num) := by
    unfold akB mgB
    rw [one_ok hk hn, hk, hn, sum_one]
    simp
  unfold akT akD mgT mgD
  rw [← e, sum_one]
  exact ⟨rfl, rfl, rfl⟩
set_option maxRecDepth 100000 in
set_option maxHeartbeats 4000000 in
theorem iak_any0 (lo hi n : Nat) (v : Value) (t : Int) (D : List (List Int)) (w : World) (hr : KRow w lo hi v n D) (hh : hi ≤ w.heap.size) (ht : I64 t) (key num : Int) : Calls Try.prog 18 #[.agg #[v, .int .i64 t], .int .i64 key, .int .i64 num] w (SkBPost (akT t D key num) (akD t D key num) (akB t D key num) w) := by
  obtain ⟨ad, cp, rfl⟩ := hr.slice
  have HD := Lib.hid hr.2
  have HR := Lib.hid hr
  have HT := Lib.hid ht
  clear hr ht
  cases hok : adB key num with
  | false =>
    have hno : akB t D key num = false := by
      unfold akB
      unfold adB at hok
      rcases Bool.and_eq_false_iff.1 hok with h | h <;> rw [h] <;> simp
    rw [hno, (ak_no hno).1, (ak_no hno).2]
    clear hno
    go_enter Try.func18, Try.ntmps18
    go_wp2_with fail
    go_at_call 54
    refine (addok_any key num _).mono ?_
    rw [hok]
    rintro e v11 ⟨rfl, hb11⟩
    have sz11 : w.heap.size + 3 ≤ v11.heap.size := by have hh := hb11.size; simp at hh; omega
    have st11 : Below w.heap.size w v11 := Below.trans (by go_grown) (hb11.mono (by simp <;> omega))
    have c11_0 : v11.cell? ⟨w.heap.size, 0, none⟩ = some (.slice ad n cp) := by rw [(bcell hb11).1 _ _ (by simp <;> omega), old_box (by simp <;> omega), old_box (by simp <;> omega)]; first | (rw [new_at (by simp)]; rfl) | simp
    have c11_1 : v11.cell? ⟨w.heap.size, 1, none⟩ = some (.int .i64 t) := by rw [(bcell hb11).1 _ _ (by simp <;> omega), old_box (by simp <;> omega), old_box (by simp <;> omega)]; first | (rw [new_at (by simp)]; rfl) | simp
    have c11_2 : v11.cell? ⟨w.heap.size + 1, 0, none⟩ = some (.slice none 0 0) := by rw [(bcell hb11).1 _ _ (by simp <;> omega), old_box (by simp <;> omega)]; first | (rw [new_at (by simp)]; rfl) | simp
    have c11_3 : v11.cell? ⟨w.heap.size + 1, 1, none⟩ = some (.int .i64 0) := by rw [(bcell hb11).1 _ _ (by simp <;> omega), old_box (by simp <;> omega)]; first | (rw [new_at (by simp)]; rfl) | simp
    have c11_4 : v11.cell? ⟨w.heap.size + 1 + 1, 0, none⟩ = some (.int .i64 key) := by rw [(bcell hb11).1 _ _ (by simp)]; first | (rw [new_at (by simp)]; rfl) | simp
    have c11_5 : v11.cell? ⟨w.heap.size + 1 + 1, 1, none⟩ = some (.int .i64 num) := by rw [(bcell hb11).1 _ _ (by simp)]; first | (rw [new_at (by simp)]; rfl) | simp
    have g11_0 : v11.frozen? ⟨w.heap.size + 1, 0, none⟩ = false := by rw [(bcell hb11).2 _ _ (by simp <;> omega), old_frz (by simp <;> omega), new_frz (by simp)]
    have g11_1 : v11.frozen? ⟨w.heap.size + 1, 1, none⟩ = false := by rw [(bcell hb11).2 _ _ (by simp <;> omega), old_frz (by simp <;> omega), new_frz (by simp)]
    have B11 : Hid (Below w.heap.size w v11) := st11
    have R11_0 : Hid (KRow v11 (lo) (hi) (.slice ad n cp) n D) := HR.out.below st11 (by omega)
    have d11_0 : w.heap.size < v11.heap.size := by omega
    have e11_0 : w.heap.size ≠ v11.heap.size := by omega
    have d11_1 : w.heap.size + 1 < v11.heap.size := by omega
    have e11_1 : w.heap.size + 1 ≠ v11.heap.size := by omega
    have d11_2 : w.heap.size + 1 + 1 < v11.heap.size := by omega
    have e11_2 : w.heap.size + 1 + 1 ≠ v11.heap.size := by omega
    clear st11 HR hb11
    go_wp2_with fail
    go_at_call 55
    refine (icpk_any lo hi n _ t D _ R11_0.out (by omega)).mono ?_
    rintro e v12 ⟨vC, rfl, hr, hb12⟩
    have sz12 : v11.heap.size ≤ v12.heap.size := hb12.size
    have st12 : Below v11.heap.size v11 v12 := hb12
    have c12_0 : v12.cell? ⟨w.heap.size, 0, none⟩ = some (.slice ad n cp) := by rw [(bcell st12).1 _ _ (by omega)]; exact c11_0
    have c12_1 : v12.cell? ⟨w.heap.size, 1, none⟩ = some (.int .i64 t) := by rw [(bcell st12).1 _ _ (by omega)]; exact c11_1
    have c12_2 : v12.cell? ⟨w.heap.size + 1, 0, none⟩ = some (.slice none 0 0) := by rw [(bcell st12).1 _ _ (by omega)]; exact c11_2
    have c12_3 : v12.cell? ⟨w.heap.size + 1, 1, none⟩ = some (.int .i64 0) := by rw [(bcell st12).1 _ _ (by omega)]; exact c11_3
    have c12_4 : v12.cell? ⟨w.heap.size + 1 + 1, 0, none⟩ = some (.int .i64 key) := by rw [(bcell st12).1 _ _ (by omega)]; exact c11_4
    have c12_5 : v12.cell? ⟨w.heap.size + 1 + 1, 1, none⟩ = some (.int .i64 num) := by rw [(bcell st12).1 _ _ (by omega)]; exact c11_5
    have g12_0 : v12.frozen? ⟨w.heap.size + 1, 0, none⟩ = false := by rw [(bcell st12).2 _ _ (by omega)]; exact g11_0
    have g12_1 : v12.frozen? ⟨w.heap.size + 1, 1, none⟩ = false := by rw [(bcell st12).2 _ _ (by omega)]; exact g11_1
    have B12 : Hid (Below w.heap.size w v12) := B11.out.trans (st12.mono (by omega))
    have R12_0 : Hid (KRow v12 (lo) (hi) (.slice ad n cp) n D) := R11_0.out.below st12 (by omega)
    have R12_1 : Hid (KRow v12 (v11.heap.size) (v12.heap.size) vC n D) := hr
    have d12_0 : w.heap.size < v12.heap.size := by omega
    have e12_0 : w.heap.size ≠ v12.heap.size := by omega
    have d12_1 : w.heap.size + 1 < v12.heap.size := by omega
    have e12_1 : w.heap.size + 1 ≠ v12.heap.size := by omega
    have d12_2 : w.heap.size + 1 + 1 < v12.heap.size := by omega
    have e12_2 : w.heap.size + 1 + 1 ≠ v12.heap.size := by omega
    clear d11_0 e11_0 d11_1 e11_1 d11_2 e11_2 c11_0 c11_1 c11_2 c11_3 c11_4 c11_5 g11_0 g11_1 B11 st12 R11_0 hr hb12
    obtain ⟨aC, cC, rfl⟩ := R12_1.out.slice
    obtain ⟨r0, r1, HRr, HBr⟩ := res2 (R := w.heap.size + 1) (t := t) B12.out R12_1.out (by omega) (by omega) (by omega) (by omega) c12_2 c12_3
    clear R12_0 R12_1
    go_wp2_with fail
    refine bodyPost_ret (v := .tuple #[.agg #[.slice aC n cC, .int .i64 t], .bool false]) (by simp [results, Try.results18, go_sem, r0, r1]) rfl ⟨_, rfl, ?_, HBr.out⟩
    rw [HD.out]; exact HRr.out
  | true =>
    have hk : keyB key = true := (Bool.and_eq_true_iff.1 hok).1
    have hn : inB num 1 1000000 = true := (Bool.and_eq_true_iff.1 hok).2
    obtain ⟨e1, e2, e3⟩ := mg_ak (t := t) D hk hn
    rw [e1, e2, e3]
    clear e1 e2 e3
    have HNI : Hid (I64 num) := Lib.hid (by have := inB_iff.1 hn; unfold I64; omega)
    have HK := Lib.hid hk
    go_enter Try.func18, Try.ntmps18
    go_wp2_with fail
    go_at_call 54
    refine (addok_any key num _).mono ?_
    rw [hok]
    rintro e v11 ⟨rfl, hb11⟩
    have sz11 : w.heap.size + 3 ≤ v11.heap.size := by have hh := hb11.size; simp at hh; omega
    have st11 : Below w.heap.size w v11 := Below.trans (by go_grown) (hb11.mono (by simp <;> omega))
    have c11_0 : v11.cell? ⟨w.heap.size, 0, none⟩ = some (.slice ad n cp) := by rw [(bcell hb11).1 _ _ (by simp <;> omega), old_box (by simp <;> omega), old_box (by simp <;> omega)]; first | (rw [new_at (by simp)]; rfl) | simp
    have c11_1 : v11.cell? ⟨w.heap.size, 1, none⟩ = some (.int .i64 t) := by rw [(bcell hb11).1 _ _ (by simp <;> omega), old_box (by simp <;> omega), old_box (by simp <;> omega)]; first | (rw [new_at (by simp)]; rfl) | simp
    have c11_2 : v11.cell? ⟨w.heap.size + 1, 0, none⟩ = some (.slice none 0 0) := by rw [(bcell hb11).1 _ _ (by simp <;> omega), old_box (by simp <;> omega)]; first | (rw [new_at (by simp)]; rfl) | simp
    have c11_3 : v11.cell? ⟨w.heap.size + 1, 1, none⟩ = some (.int .i64 0) := by rw [(bcell hb11).1 _ _ (by simp <;> omega), old_box (by simp <;> omega)]; first | (rw [new_at (by simp)]; rfl) | simp
    have c11_4 : v11.cell? ⟨w.heap.size + 1 + 1, 0, none⟩ = some (.int .i64 key) := by rw [(bcell hb11).1 _ _ (by simp)]; first | (rw [new_at (by simp)]; rfl) | simp
    have c11_5 : v11.cell? ⟨w.heap.size + 1 + 1, 1, none⟩ = some (.int .i64 num) := by rw [(bcell hb11).1 _ _ (by simp)]; first | (rw [new_at (by simp)]; rfl) | simp
    have g11_0 : v11.frozen? ⟨w.heap.size + 1, 0, none⟩ = false := by rw [(bcell hb11).2 _ _ (by simp <;> omega), old_frz (by simp <;> omega), new_frz (by simp)]
    have g11_1 : v11.frozen? ⟨w.heap.size + 1, 1, none⟩ = false := by rw [(bcell hb11).2 _ _ (by simp <;> omega), old_frz (by simp <;> omega), new_frz (by simp)]
    have B11 : Hid (Below w.heap.size w v11) := st11
    have R11_0 : Hid (KRow v11 (lo) (hi) (.slice ad n cp) n D) := HR.out.below st11 (by omega)
    have d11_0 : w.heap.size < v11.heap.size := by omega
    have e11_0 : w.heap.size ≠ v11.heap.size := by omega
    have d11_1 : w.heap.size + 1 < v11.heap.size := by omega
    have e11_1 : w.heap.size + 1 ≠ v11.heap.size := by omega
    have d11_2 : w.heap.size + 1 + 1 < v11.heap.size := by omega
    have e11_2 : w.heap.size + 1 + 1 ≠ v11.heap.size := by omega
    clear st11 HR hb11
    clear hk hn hok
    go_wp2_with fail
    go_region_law (first | (go_simp; go_at_call 56; refine (asketch_any key num v11.drew HK.out).mono ?_; rintro e w5 ⟨r5, rfl, hr5, hb5⟩; obtain ⟨a5, c5, rfl⟩ := hr5.slice; have HB5 : Hid (Below v11.heap.size v11 w5) := below_undrew hb5; have HR5 : Hid (KRow w5 v11.heap.size w5.heap.size (.slice a5 4 c5) 4 (oneD key num)) := hr5; have hs5 := HB5.out.size; have w5_0 : w5.cell? ⟨w.heap.size, 0, none⟩ = some (.slice ad n cp) := (by rw [HB5.out.cell (p := ⟨w.heap.size, 0, none⟩) (by show w.heap.size < v11.heap.size; omega)]; exact c11_0); have w5_1 : w5.cell? ⟨w.heap.size, 1, none⟩ = some (.int .i64 t) := (by rw [HB5.out.cell (p := ⟨w.heap.size, 1, none⟩) (by show w.heap.size < v11.heap.size; omega)]; exact c11_1); have w5_2 : w5.cell? ⟨w.heap.size + 1, 0, none⟩ = some (.slice none 0 0) := (by rw [HB5.out.cell (p := ⟨w.heap.size + 1, 0, none⟩) (by show w.heap.size + 1 < v11.heap.size; omega)]; exact c11_2); have w5_3 : w5.cell? ⟨w.heap.size + 1, 1, none⟩ = some (.int .i64 0) := (by rw [HB5.out.cell (p := ⟨w.heap.size + 1, 1, none⟩) (by show w.heap.size + 1 < v11.heap.size; omega)]; exact c11_3); have w5_f0 : w5.frozen? ⟨w.heap.size + 1, 0, none⟩ = false := (by rw [HB5.out.frozen (p := ⟨w.heap.size + 1, 0, none⟩) (by show w.heap.size + 1 < v11.heap.size; omega)]; exact g11_0); have w5_f1 : w5.frozen? ⟨w.heap.size + 1, 1, none⟩ = false := (by rw [HB5.out.frozen (p := ⟨w.heap.size + 1, 1, none⟩) (by show w.heap.size + 1 < v11.heap.size; omega)]; exact g11_1); have hw51 : w.heap.size < w5.heap.size := (by omega); have hw52 : w.heap.size + 1 < w5.heap.size := (by omega); clear hr5 hb5) | (go_simp; go_at_call 19; refine (imerge_any lo hi n v11.heap.size w5.heap.size 4 _ _ t num D (oneD key num) w5 (R11_0.out.below HB5.out (by omega)) HR5.out (by omega) (Nat.le_refl _) HT.out HNI.out).mono ?_; rintro e w6 ⟨r6, rfl, hr6, hb6⟩; obtain ⟨a6, c6, rfl⟩ := hr6.slice; have HB6 : Hid (Below v11.heap.size v11 w6) := (HB5.out.trans (hb6.mono (by omega))); have hs6 := hb6.size; have w6_0 : w6.cell? ⟨w.heap.size, 0, none⟩ = some (.slice ad n cp) := (by rw [HB6.out.cell (p := ⟨w.heap.size, 0, none⟩) (by show w.heap.size < v11.heap.size; omega)]; exact c11_0); have w6_1 : w6.cell? ⟨w.heap.size, 1, none⟩ = some (.int .i64 t) := (by rw [HB6.out.cell (p := ⟨w.heap.size, 1, none⟩) (by show w.heap.size < v11.heap.size; omega)]; exact c11_1); have w6_2 : w6.cell? ⟨w.heap.size + 1, 0, none⟩ = some (.slice none 0 0) := (by rw [HB6.out.cell (p := ⟨w.heap.size + 1, 0, none⟩) (by show w.heap.size + 1 < v11.heap.size; omega)]; exact c11_2); have w6_3 : w6.cell? ⟨w.heap.size + 1, 1, none⟩ = some (.int .i64 0) := (by rw [HB6.out.cell (p := ⟨w.heap.size + 1, 1, none⟩) (by show w.heap.size + 1 < v11.heap.size; omega)]; exact c11_3); have w6_f0 : w6.frozen? ⟨w.heap.size + 1, 0, none⟩ = false := (by rw [HB6.out.frozen (p := ⟨w.heap.size + 1, 0, none⟩) (by show w.heap.size + 1 < v11.heap.size; omega)]; exact g11_0); have w6_f1 : w6.frozen? ⟨w.heap.size + 1, 1, none⟩ = false := (by rw [HB6.out.frozen (p := ⟨w.heap.size + 1, 1, none⟩) (by show w.heap.size + 1 < v11.heap.size; omega)]; exact g11_1); have hw61 : w.heap.size + 1 < w6.heap.size := (by omega); obtain ⟨r0, r1, HRr, HBr⟩ := res2 (R := w.heap.size + 1) (t := mgT t D num (oneD key num)) (B11.out.trans (HB6.out.mono (by omega))) hr6 (by omega) (by omega) (by omega) (Nat.le_refl _) w6_2 w6_3; clear hr6 hb6) | fail)
    all_goals
      go_wp2_with fail
      refine bodyPost_ret (v := .tuple #[.agg #[.slice a6 (mgD t D num (oneD key num)).length c6, .int .i64 (mgT t D num (oneD key num))], .bool (mgB t D num (oneD key num))]) (by simp [results, Try.results18, go_sem, r0, r1]) rfl ⟨_, rfl, HRr.out, HBr.out⟩

end Go.Proofs.Ytophppnllkadoaa
