/- AddKey of the model. -/
import Derived.Test.YtophppnllkadoaaK15
import Derived.Test.YtophppnllkadoaaK9
namespace Go.Proofs.Ytophppnllkadoaa
open Go.RowKit


theorem BoxL.drew {w3 wr : World} {B X L H c : Nat} {a : Option Addr} {T : Int} {f : Nat → Nat → Int} (h : BoxL w3 wr B X L H a c T f) : BoxL w3 wr.drew B X L H a c T f := h.grow ⟨rfl, rfl, rfl, Nat.le_refl _, fun _ _ => rfl⟩

set_option maxRecDepth 100000 in
set_option maxHeartbeats 4000000 in
theorem sak_any0 (lo hi n : Nat) (v : Value) (t : Int) (D : List (List Int)) (w : World) (hr : KRow w lo hi v n D) (hh : hi ≤ w.heap.size) (ht : I64 t) (key num : Int) : Calls Try.prog 38 #[.agg #[v, .int .i64 t], .int .i64 key, .int .i64 num] w (SkBPost (akT t D key num) (akD t D key num) (akB t D key num) w) := by
  obtain ⟨ad, cp, rfl⟩ := hr.slice
  have HD := Lib.hid hr.2
  have HR := Lib.hid hr
  have HT := Lib.hid ht
  clear hr ht
  cases hs : skB t D with
  | false =>
    have hno : akB t D key num = false := by unfold akB; rw [hs]; rfl
    rw [hno, (ak_no hno).1, (ak_no hno).2]
    clear hno
    go_enter Try.func38, Try.ntmps38
    go_wp2_with fail
    go_at_call 31
    refine (sskok_any lo hi n _ t D _ (HR.out.below (B := w.heap.size) (by go_grown) (by omega)) (by simp; omega) HT.out).mono ?_
    rw [hs]
    rintro e v11 ⟨rfl, hb11⟩
    have sz11 : w.heap.size + 2 ≤ v11.heap.size := by have hh := hb11.size; simp at hh; omega
    have st11 : Below w.heap.size w v11 := Below.trans (by go_grown) (hb11.mono (by simp <;> omega))
    have c11_0 : v11.cell? ⟨w.heap.size, 0, none⟩ = some (.slice ad n cp) := by rw [(bcell hb11).1 _ _ (by simp <;> omega), old_box (by simp <;> omega)]; first | (rw [new_at (by simp)]; rfl) | simp
    have c11_1 : v11.cell? ⟨w.heap.size, 1, none⟩ = some (.int .i64 t) := by rw [(bcell hb11).1 _ _ (by simp <;> omega), old_box (by simp <;> omega)]; first | (rw [new_at (by simp)]; rfl) | simp
    have c11_2 : v11.cell? ⟨w.heap.size + 1, 0, none⟩ = some (.slice none 0 0) := by rw [(bcell hb11).1 _ _ (by simp)]; first | (rw [new_at (by simp)]; rfl) | simp
    have c11_3 : v11.cell? ⟨w.heap.size + 1, 1, none⟩ = some (.int .i64 0) := by rw [(bcell hb11).1 _ _ (by simp)]; first | (rw [new_at (by simp)]; rfl) | simp
    have g11_0 : v11.frozen? ⟨w.heap.size + 1, 0, none⟩ = false := by rw [(bcell hb11).2 _ _ (by simp), new_frz (by simp)]
    have g11_1 : v11.frozen? ⟨w.heap.size + 1, 1, none⟩ = false := by rw [(bcell hb11).2 _ _ (by simp), new_frz (by simp)]
    have B11 : Hid (Below w.heap.size w v11) := st11
    have R11_0 : Hid (KRow v11 (lo) (hi) (.slice ad n cp) n D) := HR.out.below st11 (by omega)
    have d11_0 : w.heap.size < v11.heap.size := by omega
    have e11_0 : w.heap.size ≠ v11.heap.size := by omega
    have d11_1 : w.heap.size + 1 < v11.heap.size := by omega
    have e11_1 : w.heap.size + 1 ≠ v11.heap.size := by omega
    clear st11 HR hb11
    go_wp2_with fail
    go_at_call 69
    refine (scpk_any lo hi n _ t D _ R11_0.out (by omega)).mono ?_
    rintro e v12 ⟨vC, rfl, hr, hb12⟩
    have sz12 : v11.heap.size ≤ v12.heap.size := hb12.size
    have st12 : Below v11.heap.size v11 v12 := hb12
    have c12_0 : v12.cell? ⟨w.heap.size, 0, none⟩ = some (.slice ad n cp) := by rw [(bcell st12).1 _ _ (by omega)]; exact c11_0
    have c12_1 : v12.cell? ⟨w.heap.size, 1, none⟩ = some (.int .i64 t) := by rw [(bcell st12).1 _ _ (by omega)]; exact c11_1
    have c12_2 : v12.cell? ⟨w.heap.size + 1, 0, none⟩ = some (.slice none 0 0) := by rw [(bcell st12).1 _ _ (by omega)]; exact c11_2
    have c12_3 : v12.cell? ⟨w.heap.size + 1, 1, none⟩ = some (.int .i64 0) := by rw [(bcell st12).1 _ _ (by omega)]; exact c11_3
    have g12_0 : v12.frozen? ⟨w.heap.size + 1, 0, none⟩ = false := by rw [(bcell st12).2 _ _ (by omega)]; exact g11_0
    have g12_1 : v12.frozen? ⟨w.heap.size + 1, 1, none⟩ = false := by rw [(bcell st12).2 _ _ (by omega)]; exact g11_1
    have B12 : Hid (Below w.heap.size w v12) := B11.out.trans (st12.mono (by omega))
    have R12_0 : Hid (KRow v12 (lo) (hi) (.slice ad n cp) n D) := R11_0.out.below st12 (by omega)
    have R12_1 : Hid (KRow v12 (v11.heap.size) (v12.heap.size) vC n D) := hr
    have d12_0 : w.heap.size < v12.heap.size := by omega
    have e12_0 : w.heap.size ≠ v12.heap.size := by omega
    have d12_1 : w.heap.size + 1 < v12.heap.size := by omega
    have e12_1 : w.heap.size + 1 ≠ v12.heap.size := by omega
    clear d11_0 e11_0 d11_1 e11_1 c11_0 c11_1 c11_2 c11_3 g11_0 g11_1 B11 st12 R11_0 hr hb12
    obtain ⟨aC, cC, rfl⟩ := R12_1.out.slice
    obtain ⟨r0, r1, HRr, HBr⟩ := res2 (R := w.heap.size + 1) (t := t) B12.out R12_1.out (by omega) (by omega) (by omega) (by omega) c12_2 c12_3
    clear R12_0 R12_1
    go_wp2_with fail
    refine bodyPost_ret (v := .tuple #[.agg #[.slice aC n cC, .int .i64 t], .bool false]) (by simp [results, Try.results38, go_sem, r0, r1]) rfl ⟨_, rfl, ?_, HBr.out⟩
    rw [HD.out]; exact HRr.out
  | true =>
  cases hk : keyB key with
  | false =>
    have hno : akB t D key num = false := by unfold akB; rw [hs, hk]; rfl
    rw [hno, (ak_no hno).1, (ak_no hno).2]
    clear hno
    go_enter Try.func38, Try.ntmps38
    go_wp2_with fail
    go_at_call 31
    refine (sskok_any lo hi n _ t D _ (HR.out.below (B := w.heap.size) (by go_grown) (by omega)) (by simp; omega) HT.out).mono ?_
    rw [hs]
    rintro e v11 ⟨rfl, hb11⟩
    have sz11 : w.heap.size + 2 ≤ v11.heap.size := by have hh := hb11.size; simp at hh; omega
    have st11 : Below w.heap.size w v11 := Below.trans (by go_grown) (hb11.mono (by simp <;> omega))
    have c11_0 : v11.cell? ⟨w.heap.size, 0, none⟩ = some (.slice ad n cp) := by rw [(bcell hb11).1 _ _ (by simp <;> omega), old_box (by simp <;> omega)]; first | (rw [new_at (by simp)]; rfl) | simp
    have c11_1 : v11.cell? ⟨w.heap.size, 1, none⟩ = some (.int .i64 t) := by rw [(bcell hb11).1 _ _ (by simp <;> omega), old_box (by simp <;> omega)]; first | (rw [new_at (by simp)]; rfl) | simp
    have c11_2 : v11.cell? ⟨w.heap.size + 1, 0, none⟩ = some (.slice none 0 0) := by rw [(bcell hb11).1 _ _ (by simp)]; first | (rw [new_at (by simp)]; rfl) | simp
    have c11_3 : v11.cell? ⟨w.heap.size + 1, 1, none⟩ = some (.int .i64 0) := by rw [(bcell hb11).1 _ _ (by simp)]; first | (rw [new_at (by simp)]; rfl) | simp
    have g11_0 : v11.frozen? ⟨w.heap.size + 1, 0, none⟩ = false := by rw [(bcell hb11).2 _ _ (by simp), new_frz (by simp)]
    have g11_1 : v11.frozen? ⟨w.heap.size + 1, 1, none⟩ = false := by rw [(bcell hb11).2 _ _ (by simp), new_frz (by simp)]
    have B11 : Hid (Below w.heap.size w v11) := st11
    have R11_0 : Hid (KRow v11 (lo) (hi) (.slice ad n cp) n D) := HR.out.below st11 (by omega)
    have d11_0 : w.heap.size < v11.heap.size := by omega
    have e11_0 : w.heap.size ≠ v11.heap.size := by omega
    have d11_1 : w.heap.size + 1 < v11.heap.size := by omega
    have e11_1 : w.heap.size + 1 ≠ v11.heap.size := by omega
    clear st11 HR hb11
    go_wp2_with fail
    go_at_call 60
    refine (key_any key _).mono ?_
    rw [hk]
    rintro e w' ⟨rfl, rfl⟩
    go_wp2_with fail
    go_at_call 69
    refine (scpk_any lo hi n _ t D _ R11_0.out (by omega)).mono ?_
    rintro e v12 ⟨vC, rfl, hr, hb12⟩
    have sz12 : v11.heap.size ≤ v12.heap.size := hb12.size
    have st12 : Below v11.heap.size v11 v12 := hb12
    have c12_0 : v12.cell? ⟨w.heap.size, 0, none⟩ = some (.slice ad n cp) := by rw [(bcell st12).1 _ _ (by omega)]; exact c11_0
    have c12_1 : v12.cell? ⟨w.heap.size, 1, none⟩ = some (.int .i64 t) := by rw [(bcell st12).1 _ _ (by omega)]; exact c11_1
    have c12_2 : v12.cell? ⟨w.heap.size + 1, 0, none⟩ = some (.slice none 0 0) := by rw [(bcell st12).1 _ _ (by omega)]; exact c11_2
    have c12_3 : v12.cell? ⟨w.heap.size + 1, 1, none⟩ = some (.int .i64 0) := by rw [(bcell st12).1 _ _ (by omega)]; exact c11_3
    have g12_0 : v12.frozen? ⟨w.heap.size + 1, 0, none⟩ = false := by rw [(bcell st12).2 _ _ (by omega)]; exact g11_0
    have g12_1 : v12.frozen? ⟨w.heap.size + 1, 1, none⟩ = false := by rw [(bcell st12).2 _ _ (by omega)]; exact g11_1
    have B12 : Hid (Below w.heap.size w v12) := B11.out.trans (st12.mono (by omega))
    have R12_0 : Hid (KRow v12 (lo) (hi) (.slice ad n cp) n D) := R11_0.out.below st12 (by omega)
    have R12_1 : Hid (KRow v12 (v11.heap.size) (v12.heap.size) vC n D) := hr
    have d12_0 : w.heap.size < v12.heap.size := by omega
    have e12_0 : w.heap.size ≠ v12.heap.size := by omega
    have d12_1 : w.heap.size + 1 < v12.heap.size := by omega
    have e12_1 : w.heap.size + 1 ≠ v12.heap.size := by omega
    clear d11_0 e11_0 d11_1 e11_1 c11_0 c11_1 c11_2 c11_3 g11_0 g11_1 B11 st12 R11_0 hr hb12
    obtain ⟨aC, cC, rfl⟩ := R12_1.out.slice
    obtain ⟨r0, r1, HRr, HBr⟩ := res2 (R := w.heap.size + 1) (t := t) B12.out R12_1.out (by omega) (by omega) (by omega) (by omega) c12_2 c12_3
    clear R12_0 R12_1
    go_wp2_with fail
    refine bodyPost_ret (v := .tuple #[.agg #[.slice aC n cC, .int .i64 t], .bool false]) (by simp [results, Try.results38, go_sem, r0, r1]) rfl ⟨_, rfl, ?_, HBr.out⟩
    rw [HD.out]; exact HRr.out
  | true =>
  cases hn : inB num 1 1000000 with
  | false =>
    have hno : akB t D key num = false := by unfold akB; rw [hs, hk, hn]; rfl
    rw [hno, (ak_no hno).1, (ak_no hno).2]
    clear hno
    go_enter Try.func38, Try.ntmps38
    go_wp2_with fail
    go_at_call 31
    refine (sskok_any lo hi n _ t D _ (HR.out.below (B := w.heap.size) (by go_grown) (by omega)) (by simp; omega) HT.out).mono ?_
    rw [hs]
    rintro e v11 ⟨rfl, hb11⟩
    have sz11 : w.heap.size + 2 ≤ v11.heap.size := by have hh := hb11.size; simp at hh; omega
    have st11 : Below w.heap.size w v11 := Below.trans (by go_grown) (hb11.mono (by simp <;> omega))
    have c11_0 : v11.cell? ⟨w.heap.size, 0, none⟩ = some (.slice ad n cp) := by rw [(bcell hb11).1 _ _ (by simp <;> omega), old_box (by simp <;> omega)]; first | (rw [new_at (by simp)]; rfl) | simp
    have c11_1 : v11.cell? ⟨w.heap.size, 1, none⟩ = some (.int .i64 t) := by rw [(bcell hb11).1 _ _ (by simp <;> omega), old_box (by simp <;> omega)]; first | (rw [new_at (by simp)]; rfl) | simp
    have c11_2 : v11.cell? ⟨w.heap.size + 1, 0, none⟩ = some (.slice none 0 0) := by rw [(bcell hb11).1 _ _ (by simp)]; first | (rw [new_at (by simp)]; rfl) | simp
    have c11_3 : v11.cell? ⟨w.heap.size + 1, 1, none⟩ = some (.int .i64 0) := by rw [(bcell hb11).1 _ _ (by simp)]; first | (rw [new_at (by simp)]; rfl) | simp
    have g11_0 : v11.frozen? ⟨w.heap.size + 1, 0, none⟩ = false := by rw [(bcell hb11).2 _ _ (by simp), new_frz (by simp)]
    have g11_1 : v11.frozen? ⟨w.heap.size + 1, 1, none⟩ = false := by rw [(bcell hb11).2 _ _ (by simp), new_frz (by simp)]
    have B11 : Hid (Below w.heap.size w v11) := st11
    have R11_0 : Hid (KRow v11 (lo) (hi) (.slice ad n cp) n D) := HR.out.below st11 (by omega)
    have d11_0 : w.heap.size < v11.heap.size := by omega
    have e11_0 : w.heap.size ≠ v11.heap.size := by omega
    have d11_1 : w.heap.size + 1 < v11.heap.size := by omega
    have e11_1 : w.heap.size + 1 ≠ v11.heap.size := by omega
    clear st11 HR hb11
    go_wp2_with fail
    go_at_call 60
    refine (key_any key _).mono ?_
    rw [hk]
    rintro e w' ⟨rfl, rfl⟩
    go_wp2_with fail
    go_at_call 61
    refine (in_any num 1 1000000 _).mono ?_
    rw [hn]
    rintro e w' ⟨rfl, rfl⟩
    go_wp2_with fail
    go_at_call 69
    refine (scpk_any lo hi n _ t D _ R11_0.out (by omega)).mono ?_
    rintro e v12 ⟨vC, rfl, hr, hb12⟩
    have sz12 : v11.heap.size ≤ v12.heap.size := hb12.size
    have st12 : Below v11.heap.size v11 v12 := hb12
    have c12_0 : v12.cell? ⟨w.heap.size, 0, none⟩ = some (.slice ad n cp) := by rw [(bcell st12).1 _ _ (by omega)]; exact c11_0
    have c12_1 : v12.cell? ⟨w.heap.size, 1, none⟩ = some (.int .i64 t) := by rw [(bcell st12).1 _ _ (by omega)]; exact c11_1
    have c12_2 : v12.cell? ⟨w.heap.size + 1, 0, none⟩ = some (.slice none 0 0) := by rw [(bcell st12).1 _ _ (by omega)]; exact c11_2
    have c12_3 : v12.cell? ⟨w.heap.size + 1, 1, none⟩ = some (.int .i64 0) := by rw [(bcell st12).1 _ _ (by omega)]; exact c11_3
    have g12_0 : v12.frozen? ⟨w.heap.size + 1, 0, none⟩ = false := by rw [(bcell st12).2 _ _ (by omega)]; exact g11_0
    have g12_1 : v12.frozen? ⟨w.heap.size + 1, 1, none⟩ = false := by rw [(bcell st12).2 _ _ (by omega)]; exact g11_1
    have B12 : Hid (Below w.heap.size w v12) := B11.out.trans (st12.mono (by omega))
    have R12_0 : Hid (KRow v12 (lo) (hi) (.slice ad n cp) n D) := R11_0.out.below st12 (by omega)
    have R12_1 : Hid (KRow v12 (v11.heap.size) (v12.heap.size) vC n D) := hr
    have d12_0 : w.heap.size < v12.heap.size := by omega
    have e12_0 : w.heap.size ≠ v12.heap.size := by omega
    have d12_1 : w.heap.size + 1 < v12.heap.size := by omega
    have e12_1 : w.heap.size + 1 ≠ v12.heap.size := by omega
    clear d11_0 e11_0 d11_1 e11_1 c11_0 c11_1 c11_2 c11_3 g11_0 g11_1 B11 st12 R11_0 hr hb12
    obtain ⟨aC, cC, rfl⟩ := R12_1.out.slice
    obtain ⟨r0, r1, HRr, HBr⟩ := res2 (R := w.heap.size + 1) (t := t) B12.out R12_1.out (by omega) (by omega) (by omega) (by omega) c12_2 c12_3
    clear R12_0 R12_1
    go_wp2_with fail
    refine bodyPost_ret (v := .tuple #[.agg #[.slice aC n cC, .int .i64 t], .bool false]) (by simp [results, Try.results38, go_sem, r0, r1]) rfl ⟨_, rfl, ?_, HBr.out⟩
    rw [HD.out]; exact HRr.out
  | true =>
  have HSA := Lib.hid (skB_iff.1 hs)
  obtain rfl : n = 4 := by rw [← HD.out]; exact HSA.out.1
  have ht0 := HSA.out.pos
  have ht1 := HSA.out.2.1
  have hnb := inB_iff.1 hn
  have HTS : Hid (I64 (t + num)) := Lib.hid (by unfold I64; omega)
  have hs1 : -9223372036854775808 ≤ t + num := by omega
  have hs2 : t + num ≤ 9223372036854775807 := by omega
  go_enter Try.func38, Try.ntmps38
  go_wp2_with fail
  go_at_call 31
  refine (sskok_any lo hi 4 _ t D _ (HR.out.below (B := w.heap.size) (by go_grown) (by omega)) (by simp; omega) HT.out).mono ?_
  rw [hs]
  rintro e v11 ⟨rfl, hb11⟩
  have sz11 : w.heap.size + 2 ≤ v11.heap.size := by have hh := hb11.size; simp at hh; omega
  have st11 : Below w.heap.size w v11 := Below.trans (by go_grown) (hb11.mono (by simp <;> omega))
  have c11_0 : v11.cell? ⟨w.heap.size, 0, none⟩ = some (.slice ad 4 cp) := by rw [(bcell hb11).1 _ _ (by simp <;> omega), old_box (by simp <;> omega)]; first | (rw [new_at (by simp)]; rfl) | simp
  have c11_1 : v11.cell? ⟨w.heap.size, 1, none⟩ = some (.int .i64 t) := by rw [(bcell hb11).1 _ _ (by simp <;> omega), old_box (by simp <;> omega)]; first | (rw [new_at (by simp)]; rfl) | simp
  have c11_2 : v11.cell? ⟨w.heap.size + 1, 0, none⟩ = some (.slice none 0 0) := by rw [(bcell hb11).1 _ _ (by simp)]; first | (rw [new_at (by simp)]; rfl) | simp
  have c11_3 : v11.cell? ⟨w.heap.size + 1, 1, none⟩ = some (.int .i64 0) := by rw [(bcell hb11).1 _ _ (by simp)]; first | (rw [new_at (by simp)]; rfl) | simp
  have g11_0 : v11.frozen? ⟨w.heap.size + 1, 0, none⟩ = false := by rw [(bcell hb11).2 _ _ (by simp), new_frz (by simp)]
  have g11_1 : v11.frozen? ⟨w.heap.size + 1, 1, none⟩ = false := by rw [(bcell hb11).2 _ _ (by simp), new_frz (by simp)]
  have B11 : Hid (Below w.heap.size w v11) := st11
  have R11_0 : Hid (KRow v11 (lo) (hi) (.slice ad 4 cp) 4 D) := HR.out.below st11 (by omega)
  have d11_0 : w.heap.size < v11.heap.size := by omega
  have e11_0 : w.heap.size ≠ v11.heap.size := by omega
  have d11_1 : w.heap.size + 1 < v11.heap.size := by omega
  have e11_1 : w.heap.size + 1 ≠ v11.heap.size := by omega
  clear st11 HR hb11
  go_wp2_with fail
  go_at_call 60
  refine (key_any key _).mono ?_
  rw [hk]
  rintro e w' ⟨rfl, rfl⟩
  go_wp2_with fail
  go_at_call 61
  refine (in_any num 1 1000000 _).mono ?_
  rw [hn]
  rintro e w' ⟨rfl, rfl⟩
  go_wp2_with fail
  go_at_call 69
  refine (scpk_any lo hi 4 _ t D _ R11_0.out (by omega)).mono ?_
  rintro e v12 ⟨vC, rfl, hr, hb12⟩
  have sz12 : v11.heap.size ≤ v12.heap.size := hb12.size
  have st12 : Below v11.heap.size v11 v12 := hb12
  have c12_0 : v12.cell? ⟨w.heap.size, 0, none⟩ = some (.slice ad 4 cp) := by rw [(bcell st12).1 _ _ (by omega)]; exact c11_0
  have c12_1 : v12.cell? ⟨w.heap.size, 1, none⟩ = some (.int .i64 t) := by rw [(bcell st12).1 _ _ (by omega)]; exact c11_1
  have c12_2 : v12.cell? ⟨w.heap.size + 1, 0, none⟩ = some (.slice none 0 0) := by rw [(bcell st12).1 _ _ (by omega)]; exact c11_2
  have c12_3 : v12.cell? ⟨w.heap.size + 1, 1, none⟩ = some (.int .i64 0) := by rw [(bcell st12).1 _ _ (by omega)]; exact c11_3
  have g12_0 : v12.frozen? ⟨w.heap.size + 1, 0, none⟩ = false := by rw [(bcell st12).2 _ _ (by omega)]; exact g11_0
  have g12_1 : v12.frozen? ⟨w.heap.size + 1, 1, none⟩ = false := by rw [(bcell st12).2 _ _ (by omega)]; exact g11_1
  have B12 : Hid (Below w.heap.size w v12) := B11.out.trans (st12.mono (by omega))
  have R12_0 : Hid (KRow v12 (lo) (hi) (.slice ad 4 cp) 4 D) := R11_0.out.below st12 (by omega)
  have R12_1 : Hid (KRow v12 (v11.heap.size) (v12.heap.size) vC 4 D) := hr
  have d12_0 : w.heap.size < v12.heap.size := by omega
  have e12_0 : w.heap.size ≠ v12.heap.size := by omega
  have d12_1 : w.heap.size + 1 < v12.heap.size := by omega
  have e12_1 : w.heap.size + 1 ≠ v12.heap.size := by omega
  clear d11_0 e11_0 d11_1 e11_1 c11_0 c11_1 c11_2 c11_3 g11_0 g11_1 B11 st12 R11_0 hr hb12
  obtain ⟨aC, cC, rfl⟩ := R12_1.out.slice
  have HCm : Hid (KRow v12 (v11.heap.size) (v12.heap.size) (.slice aC 4 cC) 4 (mat (cellD D))) := Lib.hid (by rw [← HSA.out.isMat]; exact R12_1.out)
  obtain ⟨G, _, _, eG, hG1, hG2, _⟩ := HCm.out.put (i := 0) (j := 0) (by decide) (by decide)
  subst eG
  clear HCm
  go_wp2_with fail
  obtain ⟨q13, hq13⟩ : ∃ q, q = (v12.alloc (.cells #[.slice (some ⟨G, 0, none⟩) 4 cC, .int .i64 (t + num)] 28)) := ⟨_, rfl⟩
  have hb13 : Below v12.heap.size v12 q13 := by rw [hq13]; go_grown
  have sz13 : v12.heap.size + 1 ≤ q13.heap.size := by rw [hq13]; simp
  have c13_0 : q13.cell? ⟨w.heap.size, 0, none⟩ = some (.slice ad 4 cp) := by rw [(bcell hb13).1 _ _ (by omega)]; exact c12_0
  have c13_1 : q13.cell? ⟨w.heap.size, 1, none⟩ = some (.int .i64 t) := by rw [(bcell hb13).1 _ _ (by omega)]; exact c12_1
  have c13_2 : q13.cell? ⟨w.heap.size + 1, 0, none⟩ = some (.slice none 0 0) := by rw [(bcell hb13).1 _ _ (by omega)]; exact c12_2
  have c13_3 : q13.cell? ⟨w.heap.size + 1, 1, none⟩ = some (.int .i64 0) := by rw [(bcell hb13).1 _ _ (by omega)]; exact c12_3
  have c13_4 : q13.cell? ⟨v12.heap.size, 0, none⟩ = some (.slice (some ⟨G, 0, none⟩) 4 cC) := by rw [hq13, new_at (by simp)]; rfl
  have c13_5 : q13.cell? ⟨v12.heap.size, 1, none⟩ = some (.int .i64 (t + num)) := by rw [hq13, new_at (by simp)]; rfl
  have g13_0 : q13.frozen? ⟨w.heap.size + 1, 0, none⟩ = false := by rw [(bcell hb13).2 _ _ (by omega)]; exact g12_0
  have g13_1 : q13.frozen? ⟨w.heap.size + 1, 1, none⟩ = false := by rw [(bcell hb13).2 _ _ (by omega)]; exact g12_1
  have g13_2 : q13.frozen? ⟨v12.heap.size, 0, none⟩ = false := by rw [hq13, new_frz (by simp)]
  have g13_3 : q13.frozen? ⟨v12.heap.size, 1, none⟩ = false := by rw [hq13, new_frz (by simp)]
  have B13 : Hid (Below w.heap.size w q13) := Lib.hid (B12.out.trans (hb13.mono (by omega)))
  have R13_0 : Hid (KRow q13 (lo) (hi) (.slice ad 4 cp) 4 D) := Lib.hid (R12_0.out.below hb13 (by omega))
  have R13_1 : Hid (KRow q13 (v11.heap.size) (v12.heap.size) (.slice (some ⟨G, 0, none⟩) 4 cC) 4 D) := Lib.hid (R12_1.out.below hb13 (by omega))
  rw [← hq13]
  have d13_0 : w.heap.size < q13.heap.size := by omega
  have e13_0 : w.heap.size ≠ q13.heap.size := by omega
  have d13_1 : w.heap.size + 1 < q13.heap.size := by omega
  have e13_1 : w.heap.size + 1 ≠ q13.heap.size := by omega
  have d13_2 : v12.heap.size < q13.heap.size := by omega
  have e13_2 : v12.heap.size ≠ q13.heap.size := by omega
  clear hq13 hb13 d12_0 e12_0 d12_1 e12_1 c12_0 c12_1 c12_2 c12_3 g12_0 g12_1 B12 R12_0 R12_1
  have HA0 := Lib.hid c13_0
  have HA1 := Lib.hid c13_1
  have HR0 := Lib.hid c13_2
  have HR1 := Lib.hid c13_3
  have HRf := Lib.hid g13_0
  have HRg := Lib.hid g13_1
  have HBX0 : Hid (BoxL q13 q13 (v11.heap.size) (v12.heap.size) (v11.heap.size) (v12.heap.size) (some ⟨G, 0, none⟩) cC (t + num) (akF D key num 0)) := by
    show BoxL _ _ _ _ _ _ _ _ _ _
    rw [akF_zero]
    exact ⟨Below.refl _ _, by omega, Nat.le_refl _, .inr (by omega), by omega, by omega, fun o ho => by rcases (show o = 0 ∨ o = 1 by omega) with rfl | rfl; exact g13_2; exact g13_3, c13_4, c13_5, by rw [← HSA.out.isMat]; exact R13_1.out⟩
  have HQB := B13
  have HRQ := R13_0
  clear c13_0 c13_1 c13_2 c13_3 c13_4 c13_5 g13_0 g13_1 g13_2 g13_3 R13_0 R13_1 B13 d13_0 e13_0 d13_1 e13_1 d13_2 e13_2
  go_loopw [9] (fun i wr => ∃ k : Nat, k ≤ 4 ∧ i = .int .i64 (k : Int) ∧ Hid (BoxL q13 wr (v11.heap.size) (v12.heap.size) (v11.heap.size) (v12.heap.size) (some ⟨G, 0, none⟩) cC (t + num) (akF D key num k))) (fun i _ => 4 - (intOf i).toNat)
  case atStart => exact ⟨0, Nat.zero_le _, rfl, HBX0⟩
  case round =>
    obtain ⟨k, hkk, rfl, hBX⟩ := hrel
    clear HBX0
    have hXs := hBX.out.size
    have hHs := hBX.out.hi
    have hbl := hBX.out.below.size
    have x0 := hBX.out.c0
    have x1 := hBX.out.c1
    have hd0 : w.heap.size < wr.heap.size := by omega
    have hd1 : w.heap.size + 1 < wr.heap.size := by omega
    by_cases hlt : k < 4
    case neg =>
      obtain rfl : k = 4 := by omega
      have hge : ¬ (((4 : Nat) : Int) < 4) := by omega
      have RA : Hid (KRow wr (lo) (hi) (.slice ad 4 cp) 4 D) := HRQ.out.below hBX.out.below (by omega)
      have RC : Hid (KRow wr (v11.heap.size) (v12.heap.size) (.slice (some ⟨G, 0, none⟩) 4 cC) 4 (akS D key num)) := by
        have h := hBX.out.row
        rw [mat_congr (akF_all D key num)] at h
        exact Lib.hid h
      have a0 := hBX.out.keep (b := w.heap.size) (by omega) HA0.out
      have a1 := hBX.out.keep (b := w.heap.size) (by omega) HA1.out
      have b0 := hBX.out.keep (b := w.heap.size + 1) (by omega) HR0.out
      have b1 := hBX.out.keep (b := w.heap.size + 1) (by omega) HR1.out
      have bf0 := hBX.out.keepf (b := w.heap.size + 1) (o := 0) (by omega) HRf.out
      have bf1 := hBX.out.keepf (b := w.heap.size + 1) (o := 1) (by omega) HRg.out
      have HBw : Hid (Below w.heap.size w wr) := HQB.out.trans (hBX.out.below.mono (by omega))
      clear hBX HA0 HA1 HR0 HR1 HRf HRg HQB HRQ
      cases hss : skB (t + num) (akS D key num) with
      | false =>
        have HE : Hid (akB t D key num = false ∧ akD t D key num = D ∧ akT t D key num = t) := Lib.hid (by have h : akB t D key num = false := by (unfold akB; rw [hs, hk, hn, hss]; rfl)
                                                                                                           exact ⟨h, (ak_no h).1, (ak_no h).2⟩)
        go_wp2_with fail
        go_at_call 31
        refine (sskok_any (v11.heap.size) (v12.heap.size) 4 _ (t + num) (akS D key num) _ RC.out (by omega) HTS.out).mono ?_
        rw [hss]
        rintro e v21 ⟨rfl, hb21⟩
        have sz21 : wr.heap.size ≤ v21.heap.size := hb21.size
        have st21 : Below wr.heap.size wr v21 := hb21
        have c21_0 : v21.cell? ⟨w.heap.size, 0, none⟩ = some (.slice ad 4 cp) := by rw [(bcell st21).1 _ _ (by omega)]; exact a0
        have c21_1 : v21.cell? ⟨w.heap.size, 1, none⟩ = some (.int .i64 t) := by rw [(bcell st21).1 _ _ (by omega)]; exact a1
        have c21_2 : v21.cell? ⟨w.heap.size + 1, 0, none⟩ = some (.slice none 0 0) := by rw [(bcell st21).1 _ _ (by omega)]; exact b0
        have c21_3 : v21.cell? ⟨w.heap.size + 1, 1, none⟩ = some (.int .i64 0) := by rw [(bcell st21).1 _ _ (by omega)]; exact b1
        have c21_4 : v21.cell? ⟨v12.heap.size, 0, none⟩ = some (.slice (some ⟨G, 0, none⟩) 4 cC) := by rw [(bcell st21).1 _ _ (by omega)]; exact x0
        have c21_5 : v21.cell? ⟨v12.heap.size, 1, none⟩ = some (.int .i64 (t + num)) := by rw [(bcell st21).1 _ _ (by omega)]; exact x1
        have g21_0 : v21.frozen? ⟨w.heap.size + 1, 0, none⟩ = false := by rw [(bcell st21).2 _ _ (by omega)]; exact bf0
        have g21_1 : v21.frozen? ⟨w.heap.size + 1, 1, none⟩ = false := by rw [(bcell st21).2 _ _ (by omega)]; exact bf1
        have B21 : Hid (Below w.heap.size w v21) := HBw.out.trans (st21.mono (by omega))
        have R21_0 : Hid (KRow v21 (lo) (hi) (.slice ad 4 cp) 4 D) := RA.out.below st21 (by omega)
        have R21_1 : Hid (KRow v21 (v11.heap.size) (v12.heap.size) (.slice (some ⟨G, 0, none⟩) 4 cC) 4 (akS D key num)) := RC.out.below st21 (by omega)
        have d21_0 : w.heap.size < v21.heap.size := by omega
        have e21_0 : w.heap.size ≠ v21.heap.size := by omega
        have d21_1 : w.heap.size + 1 < v21.heap.size := by omega
        have e21_1 : w.heap.size + 1 ≠ v21.heap.size := by omega
        have d21_2 : v12.heap.size < v21.heap.size := by omega
        have e21_2 : v12.heap.size ≠ v21.heap.size := by omega
        clear a0 a1 b0 b1 x0 x1 bf0 bf1 HBw st21 RA RC hb21
        go_wp2_with fail
        go_at_call 69
        refine (scpk_any lo hi 4 _ t D _ R21_0.out (by omega)).mono ?_
        rintro e v22 ⟨vC, rfl, hr, hb22⟩
        have sz22 : v21.heap.size ≤ v22.heap.size := hb22.size
        have st22 : Below v21.heap.size v21 v22 := hb22
        have c22_0 : v22.cell? ⟨w.heap.size, 0, none⟩ = some (.slice ad 4 cp) := by rw [(bcell st22).1 _ _ (by omega)]; exact c21_0
        have c22_1 : v22.cell? ⟨w.heap.size, 1, none⟩ = some (.int .i64 t) := by rw [(bcell st22).1 _ _ (by omega)]; exact c21_1
        have c22_2 : v22.cell? ⟨w.heap.size + 1, 0, none⟩ = some (.slice none 0 0) := by rw [(bcell st22).1 _ _ (by omega)]; exact c21_2
        have c22_3 : v22.cell? ⟨w.heap.size + 1, 1, none⟩ = some (.int .i64 0) := by rw [(bcell st22).1 _ _ (by omega)]; exact c21_3
        have c22_4 : v22.cell? ⟨v12.heap.size, 0, none⟩ = some (.slice (some ⟨G, 0, none⟩) 4 cC) := by rw [(bcell st22).1 _ _ (by omega)]; exact c21_4
        have c22_5 : v22.cell? ⟨v12.heap.size, 1, none⟩ = some (.int .i64 (t + num)) := by rw [(bcell st22).1 _ _ (by omega)]; exact c21_5
        have g22_0 : v22.frozen? ⟨w.heap.size + 1, 0, none⟩ = false := by rw [(bcell st22).2 _ _ (by omega)]; exact g21_0
        have g22_1 : v22.frozen? ⟨w.heap.size + 1, 1, none⟩ = false := by rw [(bcell st22).2 _ _ (by omega)]; exact g21_1
        have B22 : Hid (Below w.heap.size w v22) := B21.out.trans (st22.mono (by omega))
        have R22_0 : Hid (KRow v22 (lo) (hi) (.slice ad 4 cp) 4 D) := R21_0.out.below st22 (by omega)
        have R22_1 : Hid (KRow v22 (v11.heap.size) (v12.heap.size) (.slice (some ⟨G, 0, none⟩) 4 cC) 4 (akS D key num)) := R21_1.out.below st22 (by omega)
        have R22_2 : Hid (KRow v22 (v21.heap.size) (v22.heap.size) vC 4 D) := hr
        have d22_0 : w.heap.size < v22.heap.size := by omega
        have e22_0 : w.heap.size ≠ v22.heap.size := by omega
        have d22_1 : w.heap.size + 1 < v22.heap.size := by omega
        have e22_1 : w.heap.size + 1 ≠ v22.heap.size := by omega
        have d22_2 : v12.heap.size < v22.heap.size := by omega
        have e22_2 : v12.heap.size ≠ v22.heap.size := by omega
        clear d21_0 e21_0 d21_1 e21_1 d21_2 e21_2 c21_0 c21_1 c21_2 c21_3 c21_4 c21_5 g21_0 g21_1 B21 st22 R21_0 R21_1 hr hb22
        obtain ⟨aC, cC, rfl⟩ := R22_2.out.slice
        obtain ⟨r0, r1, HRr, HBr⟩ := res2 (R := w.heap.size + 1) (t := t) B22.out R22_2.out (by omega) (by omega) (by omega) (by omega) c22_2 c22_3
        clear R22_0 R22_1 R22_2
        go_wp2_with fail
        refine bodyPost_ret (v := .tuple #[.agg #[.slice aC 4 cC, .int .i64 t], .bool false]) (by simp [results, Try.results38, go_sem, r0, r1]) rfl ⟨_, by rw [HE.out.1, HE.out.2.2], ?_, HBr.out⟩
        rw [HE.out.2.1]; rw [HD.out]; exact HRr.out
      | true =>
        have hye : akB t D key num = true := by unfold akB; rw [hs, hk, hn, hss]; rfl
        have HE : Hid (akB t D key num = true ∧ akD t D key num = akS D key num ∧ akT t D key num = t + num) := Lib.hid ⟨hye, (ak_yes hye).1, (ak_yes hye).2⟩
        clear hye
        go_wp2_with fail
        go_at_call 31
        refine (sskok_any (v11.heap.size) (v12.heap.size) 4 _ (t + num) (akS D key num) _ RC.out (by omega) HTS.out).mono ?_
        rw [hss]
        rintro e v21 ⟨rfl, hb21⟩
        have sz21 : wr.heap.size ≤ v21.heap.size := hb21.size
        have st21 : Below wr.heap.size wr v21 := hb21
        have c21_0 : v21.cell? ⟨w.heap.size, 0, none⟩ = some (.slice ad 4 cp) := by rw [(bcell st21).1 _ _ (by omega)]; exact a0
        have c21_1 : v21.cell? ⟨w.heap.size, 1, none⟩ = some (.int .i64 t) := by rw [(bcell st21).1 _ _ (by omega)]; exact a1
        have c21_2 : v21.cell? ⟨w.heap.size + 1, 0, none⟩ = some (.slice none 0 0) := by rw [(bcell st21).1 _ _ (by omega)]; exact b0
        have c21_3 : v21.cell? ⟨w.heap.size + 1, 1, none⟩ = some (.int .i64 0) := by rw [(bcell st21).1 _ _ (by omega)]; exact b1
        have c21_4 : v21.cell? ⟨v12.heap.size, 0, none⟩ = some (.slice (some ⟨G, 0, none⟩) 4 cC) := by rw [(bcell st21).1 _ _ (by omega)]; exact x0
        have c21_5 : v21.cell? ⟨v12.heap.size, 1, none⟩ = some (.int .i64 (t + num)) := by rw [(bcell st21).1 _ _ (by omega)]; exact x1
        have g21_0 : v21.frozen? ⟨w.heap.size + 1, 0, none⟩ = false := by rw [(bcell st21).2 _ _ (by omega)]; exact bf0
        have g21_1 : v21.frozen? ⟨w.heap.size + 1, 1, none⟩ = false := by rw [(bcell st21).2 _ _ (by omega)]; exact bf1
        have B21 : Hid (Below w.heap.size w v21) := HBw.out.trans (st21.mono (by omega))
        have R21_0 : Hid (KRow v21 (lo) (hi) (.slice ad 4 cp) 4 D) := RA.out.below st21 (by omega)
        have R21_1 : Hid (KRow v21 (v11.heap.size) (v12.heap.size) (.slice (some ⟨G, 0, none⟩) 4 cC) 4 (akS D key num)) := RC.out.below st21 (by omega)
        have d21_0 : w.heap.size < v21.heap.size := by omega
        have e21_0 : w.heap.size ≠ v21.heap.size := by omega
        have d21_1 : w.heap.size + 1 < v21.heap.size := by omega
        have e21_1 : w.heap.size + 1 ≠ v21.heap.size := by omega
        have d21_2 : v12.heap.size < v21.heap.size := by omega
        have e21_2 : v12.heap.size ≠ v21.heap.size := by omega
        clear a0 a1 b0 b1 x0 x1 bf0 bf1 HBw st21 RA RC hb21
        obtain ⟨r0, r1, HRr, HBr⟩ := res2 (R := w.heap.size + 1) (t := (t + num)) B21.out R21_1.out (by omega) (by omega) (by omega) (by omega) c21_2 c21_3
        clear R21_0 R21_1
        go_wp2_with fail
        refine bodyPost_ret (v := .tuple #[.agg #[.slice (some ⟨G, 0, none⟩) 4 cC, .int .i64 (t + num)], .bool true]) (by simp [results, Try.results38, go_sem, r0, r1]) rfl ⟨_, by rw [HE.out.1, HE.out.2.2], ?_, HBr.out⟩
        rw [HE.out.2.1, akS_len]; exact HRr.out
    case pos =>
      obtain ⟨hce, hcb⟩ := colN_eq hlt hk
      obtain ⟨cl, hcl⟩ : ∃ cl, cl = colN k key := ⟨_, rfl⟩
      rw [← hcl] at hce hcb
      have HCE := Lib.hid hce
      obtain ⟨G2, ty, g, eG, hg1, hg2, hg3, hg4, t0, t1, tf, hput⟩ := hBX.out.drew.put hlt hcb
      obtain rfl : G = G2 := by simpa using eG
      rw [akF_here] at t1
      have hb1 := HSA.out.cl k cl
      obtain ⟨za, hza⟩ : ∃ z, z = cellD D k cl := ⟨_, rfl⟩
      rw [← hza] at t1 hb1
      have HN := Lib.hid ((hput (za + num)).congr (by rw [hcl]; exact akF_step D key num k (by rw [hza, hcl])))
      have t0' : wr.cell? ⟨G, k, none⟩ = some (.slice (some ⟨g, 0, none⟩) 16 ty) := t0
      have t1' : wr.cell? ⟨g, cl, none⟩ = some (.int .i64 za) := t1
      have tf' : wr.frozen? ⟨g, cl, none⟩ = false := tf
      have q0 : (0 : Int) ≤ (k : Int) := by omega
      have q1 : (k : Int) < 4 := by omega
      have q2 : (0 : Int) ≤ (cl : Int) := by omega
      have q3 : (cl : Int) < 16 := by omega
      have q4 : -9223372036854775808 ≤ za + num := by omega
      have q5 : za + num ≤ 9223372036854775807 := by omega
      clear hput hBX hza hb1 eG hcl hce t0 t1 tf
      go_wp2_with fail
      go_at_call 28
      refine (scol_any _ _ _).mono ?_
      rw [HCE.out]
      rintro e w2 ⟨rfl, rfl⟩
      go_wp2_with fail
      go_region
      all_goals
        go_wp2_with fail
        go_roundw
        case rel => exact ⟨k + 1, by omega, by go_num, HN⟩
        case measure => simp [intOf]; omega

end Go.Proofs.Ytophppnllkadoaa
