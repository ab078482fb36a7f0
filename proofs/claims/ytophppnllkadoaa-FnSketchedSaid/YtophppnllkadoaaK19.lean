/- MergeSketch of the model. -/
import Derived.Test.YtophppnllkadoaaK16
namespace Go.Proofs.Ytophppnllkadoaa
open Go.RowKit


set_option maxRecDepth 100000 in
set_option maxHeartbeats 4000000 in
theorem smerge_any (la ha na lb hb nb : Nat) (va vb : Value) (ta tb : Int) (DA DB : List (List Int)) (w : World) (hra : KRow w la ha va na DA) (hrb : KRow w lb hb vb nb DB) (hha : ha ≤ w.heap.size) (hhb : hb ≤ w.heap.size) (hta : I64 ta) (htb : I64 tb) : Calls Try.prog 39 #[.agg #[va, .int .i64 ta], .agg #[vb, .int .i64 tb]] w (SkBPost (mgT ta DA tb DB) (mgD ta DA tb DB) (mgB ta DA tb DB) w) := by
  obtain ⟨aa, ca, rfl⟩ := hra.slice
  obtain ⟨ab, cb, rfl⟩ := hrb.slice
  have HLA := Lib.hid hra.2
  have HLB := Lib.hid hrb.2
  have HA := Lib.hid hra
  have HB := Lib.hid hrb
  have HTA := Lib.hid hta
  have HTB := Lib.hid htb
  clear hra hrb hta htb
  cases hsa : skB ta DA with
  | false =>
    have hno : mgB ta DA tb DB = false := by unfold mgB; rw [hsa]; rfl
    rw [hno, (mg_no hno).1, (mg_no hno).2]
    clear hno
    go_enter Try.func39, Try.ntmps39
    go_wp2_with fail
    go_at_call 31
    refine (sskok_any la ha na _ ta DA _ (HA.out.below (B := w.heap.size) (by go_grown) (by omega)) (by simp; omega) HTA.out).mono ?_
    rw [hsa]
    rintro e v11 ⟨rfl, hb11⟩
    have sz11 : w.heap.size + 3 ≤ v11.heap.size := by have hh := hb11.size; simp at hh; omega
    have st11 : Below w.heap.size w v11 := Below.trans (by go_grown) (hb11.mono (by simp <;> omega))
    have c11_0 : v11.cell? ⟨w.heap.size, 0, none⟩ = some (.slice aa na ca) := by rw [(bcell hb11).1 _ _ (by simp <;> omega), old_box (by simp <;> omega), old_box (by simp <;> omega)]; first | (rw [new_at (by simp)]; rfl) | simp
    have c11_1 : v11.cell? ⟨w.heap.size, 1, none⟩ = some (.int .i64 ta) := by rw [(bcell hb11).1 _ _ (by simp <;> omega), old_box (by simp <;> omega), old_box (by simp <;> omega)]; first | (rw [new_at (by simp)]; rfl) | simp
    have c11_2 : v11.cell? ⟨w.heap.size + 1, 0, none⟩ = some (.slice ab nb cb) := by rw [(bcell hb11).1 _ _ (by simp <;> omega), old_box (by simp <;> omega)]; first | (rw [new_at (by simp)]; rfl) | simp
    have c11_3 : v11.cell? ⟨w.heap.size + 1, 1, none⟩ = some (.int .i64 tb) := by rw [(bcell hb11).1 _ _ (by simp <;> omega), old_box (by simp <;> omega)]; first | (rw [new_at (by simp)]; rfl) | simp
    have c11_4 : v11.cell? ⟨w.heap.size + 1 + 1, 0, none⟩ = some (.slice none 0 0) := by rw [(bcell hb11).1 _ _ (by simp)]; first | (rw [new_at (by simp)]; rfl) | simp
    have c11_5 : v11.cell? ⟨w.heap.size + 1 + 1, 1, none⟩ = some (.int .i64 0) := by rw [(bcell hb11).1 _ _ (by simp)]; first | (rw [new_at (by simp)]; rfl) | simp
    have g11_0 : v11.frozen? ⟨w.heap.size + 1 + 1, 0, none⟩ = false := by rw [(bcell hb11).2 _ _ (by simp), new_frz (by simp)]
    have g11_1 : v11.frozen? ⟨w.heap.size + 1 + 1, 1, none⟩ = false := by rw [(bcell hb11).2 _ _ (by simp), new_frz (by simp)]
    have B11 : Hid (Below w.heap.size w v11) := st11
    have R11_0 : Hid (KRow v11 (la) (ha) (.slice aa na ca) na DA) := HA.out.below st11 (by omega)
    have R11_1 : Hid (KRow v11 (lb) (hb) (.slice ab nb cb) nb DB) := HB.out.below st11 (by omega)
    have d11_0 : w.heap.size < v11.heap.size := by omega
    have e11_0 : w.heap.size ≠ v11.heap.size := by omega
    have d11_1 : w.heap.size + 1 < v11.heap.size := by omega
    have e11_1 : w.heap.size + 1 ≠ v11.heap.size := by omega
    have d11_2 : w.heap.size + 1 + 1 < v11.heap.size := by omega
    have e11_2 : w.heap.size + 1 + 1 ≠ v11.heap.size := by omega
    clear st11 HA HB hb11
    go_wp2_with fail
    go_at_call 69
    refine (scpk_any la ha na _ ta DA _ R11_0.out (by omega)).mono ?_
    rintro e v12 ⟨vC, rfl, hr, hb12⟩
    have sz12 : v11.heap.size ≤ v12.heap.size := hb12.size
    have st12 : Below v11.heap.size v11 v12 := hb12
    have c12_0 : v12.cell? ⟨w.heap.size, 0, none⟩ = some (.slice aa na ca) := by rw [(bcell st12).1 _ _ (by omega)]; exact c11_0
    have c12_1 : v12.cell? ⟨w.heap.size, 1, none⟩ = some (.int .i64 ta) := by rw [(bcell st12).1 _ _ (by omega)]; exact c11_1
    have c12_2 : v12.cell? ⟨w.heap.size + 1, 0, none⟩ = some (.slice ab nb cb) := by rw [(bcell st12).1 _ _ (by omega)]; exact c11_2
    have c12_3 : v12.cell? ⟨w.heap.size + 1, 1, none⟩ = some (.int .i64 tb) := by rw [(bcell st12).1 _ _ (by omega)]; exact c11_3
    have c12_4 : v12.cell? ⟨w.heap.size + 1 + 1, 0, none⟩ = some (.slice none 0 0) := by rw [(bcell st12).1 _ _ (by omega)]; exact c11_4
    have c12_5 : v12.cell? ⟨w.heap.size + 1 + 1, 1, none⟩ = some (.int .i64 0) := by rw [(bcell st12).1 _ _ (by omega)]; exact c11_5
    have g12_0 : v12.frozen? ⟨w.heap.size + 1 + 1, 0, none⟩ = false := by rw [(bcell st12).2 _ _ (by omega)]; exact g11_0
    have g12_1 : v12.frozen? ⟨w.heap.size + 1 + 1, 1, none⟩ = false := by rw [(bcell st12).2 _ _ (by omega)]; exact g11_1
    have B12 : Hid (Below w.heap.size w v12) := B11.out.trans (st12.mono (by omega))
    have R12_0 : Hid (KRow v12 (la) (ha) (.slice aa na ca) na DA) := R11_0.out.below st12 (by omega)
    have R12_1 : Hid (KRow v12 (lb) (hb) (.slice ab nb cb) nb DB) := R11_1.out.below st12 (by omega)
    have R12_2 : Hid (KRow v12 (v11.heap.size) (v12.heap.size) vC na DA) := hr
    have d12_0 : w.heap.size < v12.heap.size := by omega
    have e12_0 : w.heap.size ≠ v12.heap.size := by omega
    have d12_1 : w.heap.size + 1 < v12.heap.size := by omega
    have e12_1 : w.heap.size + 1 ≠ v12.heap.size := by omega
    have d12_2 : w.heap.size + 1 + 1 < v12.heap.size := by omega
    have e12_2 : w.heap.size + 1 + 1 ≠ v12.heap.size := by omega
    clear d11_0 e11_0 d11_1 e11_1 d11_2 e11_2 c11_0 c11_1 c11_2 c11_3 c11_4 c11_5 g11_0 g11_1 B11 st12 R11_0 R11_1 hr hb12
    obtain ⟨aC, cC, rfl⟩ := R12_2.out.slice
    obtain ⟨r0, r1, HRr, HBr⟩ := res2 (R := w.heap.size + 1 + 1) (t := ta) B12.out R12_2.out (by omega) (by omega) (by omega) (by omega) c12_4 c12_5
    clear R12_0 R12_1 R12_2
    go_wp2_with fail
    refine bodyPost_ret (v := .tuple #[.agg #[.slice aC na cC, .int .i64 ta], .bool false]) (by simp [results, Try.results39, go_sem, r0, r1]) rfl ⟨_, rfl, ?_, HBr.out⟩
    rw [HLA.out]; exact HRr.out
  | true =>
  cases hsb : skB tb DB with
  | false =>
    have hno : mgB ta DA tb DB = false := by unfold mgB; rw [hsa, hsb]; rfl
    rw [hno, (mg_no hno).1, (mg_no hno).2]
    clear hno
    go_enter Try.func39, Try.ntmps39
    go_wp2_with fail
    go_at_call 31
    refine (sskok_any la ha na _ ta DA _ (HA.out.below (B := w.heap.size) (by go_grown) (by omega)) (by simp; omega) HTA.out).mono ?_
    rw [hsa]
    rintro e v11 ⟨rfl, hb11⟩
    have sz11 : w.heap.size + 3 ≤ v11.heap.size := by have hh := hb11.size; simp at hh; omega
    have st11 : Below w.heap.size w v11 := Below.trans (by go_grown) (hb11.mono (by simp <;> omega))
    have c11_0 : v11.cell? ⟨w.heap.size, 0, none⟩ = some (.slice aa na ca) := by rw [(bcell hb11).1 _ _ (by simp <;> omega), old_box (by simp <;> omega), old_box (by simp <;> omega)]; first | (rw [new_at (by simp)]; rfl) | simp
    have c11_1 : v11.cell? ⟨w.heap.size, 1, none⟩ = some (.int .i64 ta) := by rw [(bcell hb11).1 _ _ (by simp <;> omega), old_box (by simp <;> omega), old_box (by simp <;> omega)]; first | (rw [new_at (by simp)]; rfl) | simp
    have c11_2 : v11.cell? ⟨w.heap.size + 1, 0, none⟩ = some (.slice ab nb cb) := by rw [(bcell hb11).1 _ _ (by simp <;> omega), old_box (by simp <;> omega)]; first | (rw [new_at (by simp)]; rfl) | simp
    have c11_3 : v11.cell? ⟨w.heap.size + 1, 1, none⟩ = some (.int .i64 tb) := by rw [(bcell hb11).1 _ _ (by simp <;> omega), old_box (by simp <;> omega)]; first | (rw [new_at (by simp)]; rfl) | simp
    have c11_4 : v11.cell? ⟨w.heap.size + 1 + 1, 0, none⟩ = some (.slice none 0 0) := by rw [(bcell hb11).1 _ _ (by simp)]; first | (rw [new_at (by simp)]; rfl) | simp
    have c11_5 : v11.cell? ⟨w.heap.size + 1 + 1, 1, none⟩ = some (.int .i64 0) := by rw [(bcell hb11).1 _ _ (by simp)]; first | (rw [new_at (by simp)]; rfl) | simp
    have g11_0 : v11.frozen? ⟨w.heap.size + 1 + 1, 0, none⟩ = false := by rw [(bcell hb11).2 _ _ (by simp), new_frz (by simp)]
    have g11_1 : v11.frozen? ⟨w.heap.size + 1 + 1, 1, none⟩ = false := by rw [(bcell hb11).2 _ _ (by simp), new_frz (by simp)]
    have B11 : Hid (Below w.heap.size w v11) := st11
    have R11_0 : Hid (KRow v11 (la) (ha) (.slice aa na ca) na DA) := HA.out.below st11 (by omega)
    have R11_1 : Hid (KRow v11 (lb) (hb) (.slice ab nb cb) nb DB) := HB.out.below st11 (by omega)
    have d11_0 : w.heap.size < v11.heap.size := by omega
    have e11_0 : w.heap.size ≠ v11.heap.size := by omega
    have d11_1 : w.heap.size + 1 < v11.heap.size := by omega
    have e11_1 : w.heap.size + 1 ≠ v11.heap.size := by omega
    have d11_2 : w.heap.size + 1 + 1 < v11.heap.size := by omega
    have e11_2 : w.heap.size + 1 + 1 ≠ v11.heap.size := by omega
    clear st11 HA HB hb11
    go_wp2_with fail
    go_at_call 31
    refine (sskok_any lb hb nb _ tb DB _ R11_1.out (by omega) HTB.out).mono ?_
    rw [hsb]
    rintro e v12 ⟨rfl, hb12⟩
    have sz12 : v11.heap.size ≤ v12.heap.size := hb12.size
    have st12 : Below v11.heap.size v11 v12 := hb12
    have c12_0 : v12.cell? ⟨w.heap.size, 0, none⟩ = some (.slice aa na ca) := by rw [(bcell st12).1 _ _ (by omega)]; exact c11_0
    have c12_1 : v12.cell? ⟨w.heap.size, 1, none⟩ = some (.int .i64 ta) := by rw [(bcell st12).1 _ _ (by omega)]; exact c11_1
    have c12_2 : v12.cell? ⟨w.heap.size + 1, 0, none⟩ = some (.slice ab nb cb) := by rw [(bcell st12).1 _ _ (by omega)]; exact c11_2
    have c12_3 : v12.cell? ⟨w.heap.size + 1, 1, none⟩ = some (.int .i64 tb) := by rw [(bcell st12).1 _ _ (by omega)]; exact c11_3
    have c12_4 : v12.cell? ⟨w.heap.size + 1 + 1, 0, none⟩ = some (.slice none 0 0) := by rw [(bcell st12).1 _ _ (by omega)]; exact c11_4
    have c12_5 : v12.cell? ⟨w.heap.size + 1 + 1, 1, none⟩ = some (.int .i64 0) := by rw [(bcell st12).1 _ _ (by omega)]; exact c11_5
    have g12_0 : v12.frozen? ⟨w.heap.size + 1 + 1, 0, none⟩ = false := by rw [(bcell st12).2 _ _ (by omega)]; exact g11_0
    have g12_1 : v12.frozen? ⟨w.heap.size + 1 + 1, 1, none⟩ = false := by rw [(bcell st12).2 _ _ (by omega)]; exact g11_1
    have B12 : Hid (Below w.heap.size w v12) := B11.out.trans (st12.mono (by omega))
    have R12_0 : Hid (KRow v12 (la) (ha) (.slice aa na ca) na DA) := R11_0.out.below st12 (by omega)
    have R12_1 : Hid (KRow v12 (lb) (hb) (.slice ab nb cb) nb DB) := R11_1.out.below st12 (by omega)
    have d12_0 : w.heap.size < v12.heap.size := by omega
    have e12_0 : w.heap.size ≠ v12.heap.size := by omega
    have d12_1 : w.heap.size + 1 < v12.heap.size := by omega
    have e12_1 : w.heap.size + 1 ≠ v12.heap.size := by omega
    have d12_2 : w.heap.size + 1 + 1 < v12.heap.size := by omega
    have e12_2 : w.heap.size + 1 + 1 ≠ v12.heap.size := by omega
    clear d11_0 e11_0 d11_1 e11_1 d11_2 e11_2 c11_0 c11_1 c11_2 c11_3 c11_4 c11_5 g11_0 g11_1 B11 st12 R11_0 R11_1 hb12
    go_wp2_with fail
    go_at_call 69
    refine (scpk_any la ha na _ ta DA _ R12_0.out (by omega)).mono ?_
    rintro e v13 ⟨vC, rfl, hr, hb13⟩
    have sz13 : v12.heap.size ≤ v13.heap.size := hb13.size
    have st13 : Below v12.heap.size v12 v13 := hb13
    have c13_0 : v13.cell? ⟨w.heap.size, 0, none⟩ = some (.slice aa na ca) := by rw [(bcell st13).1 _ _ (by omega)]; exact c12_0
    have c13_1 : v13.cell? ⟨w.heap.size, 1, none⟩ = some (.int .i64 ta) := by rw [(bcell st13).1 _ _ (by omega)]; exact c12_1
    have c13_2 : v13.cell? ⟨w.heap.size + 1, 0, none⟩ = some (.slice ab nb cb) := by rw [(bcell st13).1 _ _ (by omega)]; exact c12_2
    have c13_3 : v13.cell? ⟨w.heap.size + 1, 1, none⟩ = some (.int .i64 tb) := by rw [(bcell st13).1 _ _ (by omega)]; exact c12_3
    have c13_4 : v13.cell? ⟨w.heap.size + 1 + 1, 0, none⟩ = some (.slice none 0 0) := by rw [(bcell st13).1 _ _ (by omega)]; exact c12_4
    have c13_5 : v13.cell? ⟨w.heap.size + 1 + 1, 1, none⟩ = some (.int .i64 0) := by rw [(bcell st13).1 _ _ (by omega)]; exact c12_5
    have g13_0 : v13.frozen? ⟨w.heap.size + 1 + 1, 0, none⟩ = false := by rw [(bcell st13).2 _ _ (by omega)]; exact g12_0
    have g13_1 : v13.frozen? ⟨w.heap.size + 1 + 1, 1, none⟩ = false := by rw [(bcell st13).2 _ _ (by omega)]; exact g12_1
    have B13 : Hid (Below w.heap.size w v13) := B12.out.trans (st13.mono (by omega))
    have R13_0 : Hid (KRow v13 (la) (ha) (.slice aa na ca) na DA) := R12_0.out.below st13 (by omega)
    have R13_1 : Hid (KRow v13 (lb) (hb) (.slice ab nb cb) nb DB) := R12_1.out.below st13 (by omega)
    have R13_2 : Hid (KRow v13 (v12.heap.size) (v13.heap.size) vC na DA) := hr
    have d13_0 : w.heap.size < v13.heap.size := by omega
    have e13_0 : w.heap.size ≠ v13.heap.size := by omega
    have d13_1 : w.heap.size + 1 < v13.heap.size := by omega
    have e13_1 : w.heap.size + 1 ≠ v13.heap.size := by omega
    have d13_2 : w.heap.size + 1 + 1 < v13.heap.size := by omega
    have e13_2 : w.heap.size + 1 + 1 ≠ v13.heap.size := by omega
    clear d12_0 e12_0 d12_1 e12_1 d12_2 e12_2 c12_0 c12_1 c12_2 c12_3 c12_4 c12_5 g12_0 g12_1 B12 st13 R12_0 R12_1 hr hb13
    obtain ⟨aC, cC, rfl⟩ := R13_2.out.slice
    obtain ⟨r0, r1, HRr, HBr⟩ := res2 (R := w.heap.size + 1 + 1) (t := ta) B13.out R13_2.out (by omega) (by omega) (by omega) (by omega) c13_4 c13_5
    clear R13_0 R13_1 R13_2
    go_wp2_with fail
    refine bodyPost_ret (v := .tuple #[.agg #[.slice aC na cC, .int .i64 ta], .bool false]) (by simp [results, Try.results39, go_sem, r0, r1]) rfl ⟨_, rfl, ?_, HBr.out⟩
    rw [HLA.out]; exact HRr.out
  | true =>
  have HSA := Lib.hid (skB_iff.1 hsa)
  have HSB := Lib.hid (skB_iff.1 hsb)
  obtain rfl : na = 4 := by rw [← HLA.out]; exact HSA.out.1
  obtain rfl : nb = 4 := by rw [← HLB.out]; exact HSB.out.1
  have hta0 := HSA.out.pos
  have hta1 := HSA.out.2.1
  have htb0 := HSB.out.pos
  have htb1 := HSB.out.2.1
  have HTS : Hid (I64 (ta + tb)) := Lib.hid (by unfold I64; omega)
  have hs1 : -9223372036854775808 ≤ ta + tb := by omega
  have hs2 : ta + tb ≤ 9223372036854775807 := by omega
  go_enter Try.func39, Try.ntmps39
  go_wp2_with fail
  go_at_call 31
  refine (sskok_any la ha 4 _ ta DA _ (HA.out.below (B := w.heap.size) (by go_grown) (by omega)) (by simp; omega) HTA.out).mono ?_
  rw [hsa]
  rintro e v11 ⟨rfl, hb11⟩
  have sz11 : w.heap.size + 3 ≤ v11.heap.size := by have hh := hb11.size; simp at hh; omega
  have st11 : Below w.heap.size w v11 := Below.trans (by go_grown) (hb11.mono (by simp <;> omega))
  have c11_0 : v11.cell? ⟨w.heap.size, 0, none⟩ = some (.slice aa 4 ca) := by rw [(bcell hb11).1 _ _ (by simp <;> omega), old_box (by simp <;> omega), old_box (by simp <;> omega)]; first | (rw [new_at (by simp)]; rfl) | simp
  have c11_1 : v11.cell? ⟨w.heap.size, 1, none⟩ = some (.int .i64 ta) := by rw [(bcell hb11).1 _ _ (by simp <;> omega), old_box (by simp <;> omega), old_box (by simp <;> omega)]; first | (rw [new_at (by simp)]; rfl) | simp
  have c11_2 : v11.cell? ⟨w.heap.size + 1, 0, none⟩ = some (.slice ab 4 cb) := by rw [(bcell hb11).1 _ _ (by simp <;> omega), old_box (by simp <;> omega)]; first | (rw [new_at (by simp)]; rfl) | simp
  have c11_3 : v11.cell? ⟨w.heap.size + 1, 1, none⟩ = some (.int .i64 tb) := by rw [(bcell hb11).1 _ _ (by simp <;> omega), old_box (by simp <;> omega)]; first | (rw [new_at (by simp)]; rfl) | simp
  have c11_4 : v11.cell? ⟨w.heap.size + 1 + 1, 0, none⟩ = some (.slice none 0 0) := by rw [(bcell hb11).1 _ _ (by simp)]; first | (rw [new_at (by simp)]; rfl) | simp
  have c11_5 : v11.cell? ⟨w.heap.size + 1 + 1, 1, none⟩ = some (.int .i64 0) := by rw [(bcell hb11).1 _ _ (by simp)]; first | (rw [new_at (by simp)]; rfl) | simp
  have g11_0 : v11.frozen? ⟨w.heap.size + 1 + 1, 0, none⟩ = false := by rw [(bcell hb11).2 _ _ (by simp), new_frz (by simp)]
  have g11_1 : v11.frozen? ⟨w.heap.size + 1 + 1, 1, none⟩ = false := by rw [(bcell hb11).2 _ _ (by simp), new_frz (by simp)]
  have B11 : Hid (Below w.heap.size w v11) := st11
  have R11_0 : Hid (KRow v11 (la) (ha) (.slice aa 4 ca) 4 DA) := HA.out.below st11 (by omega)
  have R11_1 : Hid (KRow v11 (lb) (hb) (.slice ab 4 cb) 4 DB) := HB.out.below st11 (by omega)
  have d11_0 : w.heap.size < v11.heap.size := by omega
  have e11_0 : w.heap.size ≠ v11.heap.size := by omega
  have d11_1 : w.heap.size + 1 < v11.heap.size := by omega
  have e11_1 : w.heap.size + 1 ≠ v11.heap.size := by omega
  have d11_2 : w.heap.size + 1 + 1 < v11.heap.size := by omega
  have e11_2 : w.heap.size + 1 + 1 ≠ v11.heap.size := by omega
  clear st11 HA HB hb11
  go_wp2_with fail
  go_at_call 31
  refine (sskok_any lb hb 4 _ tb DB _ R11_1.out (by omega) HTB.out).mono ?_
  rw [hsb]
  rintro e v12 ⟨rfl, hb12⟩
  have sz12 : v11.heap.size ≤ v12.heap.size := hb12.size
  have st12 : Below v11.heap.size v11 v12 := hb12
  have c12_0 : v12.cell? ⟨w.heap.size, 0, none⟩ = some (.slice aa 4 ca) := by rw [(bcell st12).1 _ _ (by omega)]; exact c11_0
  have c12_1 : v12.cell? ⟨w.heap.size, 1, none⟩ = some (.int .i64 ta) := by rw [(bcell st12).1 _ _ (by omega)]; exact c11_1
  have c12_2 : v12.cell? ⟨w.heap.size + 1, 0, none⟩ = some (.slice ab 4 cb) := by rw [(bcell st12).1 _ _ (by omega)]; exact c11_2
  have c12_3 : v12.cell? ⟨w.heap.size + 1, 1, none⟩ = some (.int .i64 tb) := by rw [(bcell st12).1 _ _ (by omega)]; exact c11_3
  have c12_4 : v12.cell? ⟨w.heap.size + 1 + 1, 0, none⟩ = some (.slice none 0 0) := by rw [(bcell st12).1 _ _ (by omega)]; exact c11_4
  have c12_5 : v12.cell? ⟨w.heap.size + 1 + 1, 1, none⟩ = some (.int .i64 0) := by rw [(bcell st12).1 _ _ (by omega)]; exact c11_5
  have g12_0 : v12.frozen? ⟨w.heap.size + 1 + 1, 0, none⟩ = false := by rw [(bcell st12).2 _ _ (by omega)]; exact g11_0
  have g12_1 : v12.frozen? ⟨w.heap.size + 1 + 1, 1, none⟩ = false := by rw [(bcell st12).2 _ _ (by omega)]; exact g11_1
  have B12 : Hid (Below w.heap.size w v12) := B11.out.trans (st12.mono (by omega))
  have R12_0 : Hid (KRow v12 (la) (ha) (.slice aa 4 ca) 4 DA) := R11_0.out.below st12 (by omega)
  have R12_1 : Hid (KRow v12 (lb) (hb) (.slice ab 4 cb) 4 DB) := R11_1.out.below st12 (by omega)
  have d12_0 : w.heap.size < v12.heap.size := by omega
  have e12_0 : w.heap.size ≠ v12.heap.size := by omega
  have d12_1 : w.heap.size + 1 < v12.heap.size := by omega
  have e12_1 : w.heap.size + 1 ≠ v12.heap.size := by omega
  have d12_2 : w.heap.size + 1 + 1 < v12.heap.size := by omega
  have e12_2 : w.heap.size + 1 + 1 ≠ v12.heap.size := by omega
  clear d11_0 e11_0 d11_1 e11_1 d11_2 e11_2 c11_0 c11_1 c11_2 c11_3 c11_4 c11_5 g11_0 g11_1 B11 st12 R11_0 R11_1 hb12
  go_wp2_with fail
  go_at_call 69
  refine (scpk_any la ha 4 _ ta DA _ R12_0.out (by omega)).mono ?_
  rintro e v13 ⟨vC, rfl, hr, hb13⟩
  have sz13 : v12.heap.size ≤ v13.heap.size := hb13.size
  have st13 : Below v12.heap.size v12 v13 := hb13
  have c13_0 : v13.cell? ⟨w.heap.size, 0, none⟩ = some (.slice aa 4 ca) := by rw [(bcell st13).1 _ _ (by omega)]; exact c12_0
  have c13_1 : v13.cell? ⟨w.heap.size, 1, none⟩ = some (.int .i64 ta) := by rw [(bcell st13).1 _ _ (by omega)]; exact c12_1
  have c13_2 : v13.cell? ⟨w.heap.size + 1, 0, none⟩ = some (.slice ab 4 cb) := by rw [(bcell st13).1 _ _ (by omega)]; exact c12_2
  have c13_3 : v13.cell? ⟨w.heap.size + 1, 1, none⟩ = some (.int .i64 tb) := by rw [(bcell st13).1 _ _ (by omega)]; exact c12_3
  have c13_4 : v13.cell? ⟨w.heap.size + 1 + 1, 0, none⟩ = some (.slice none 0 0) := by rw [(bcell st13).1 _ _ (by omega)]; exact c12_4
  have c13_5 : v13.cell? ⟨w.heap.size + 1 + 1, 1, none⟩ = some (.int .i64 0) := by rw [(bcell st13).1 _ _ (by omega)]; exact c12_5
  have g13_0 : v13.frozen? ⟨w.heap.size + 1 + 1, 0, none⟩ = false := by rw [(bcell st13).2 _ _ (by omega)]; exact g12_0
  have g13_1 : v13.frozen? ⟨w.heap.size + 1 + 1, 1, none⟩ = false := by rw [(bcell st13).2 _ _ (by omega)]; exact g12_1
  have B13 : Hid (Below w.heap.size w v13) := B12.out.trans (st13.mono (by omega))
  have R13_0 : Hid (KRow v13 (la) (ha) (.slice aa 4 ca) 4 DA) := R12_0.out.below st13 (by omega)
  have R13_1 : Hid (KRow v13 (lb) (hb) (.slice ab 4 cb) 4 DB) := R12_1.out.below st13 (by omega)
  have R13_2 : Hid (KRow v13 (v12.heap.size) (v13.heap.size) vC 4 DA) := hr
  have d13_0 : w.heap.size < v13.heap.size := by omega
  have e13_0 : w.heap.size ≠ v13.heap.size := by omega
  have d13_1 : w.heap.size + 1 < v13.heap.size := by omega
  have e13_1 : w.heap.size + 1 ≠ v13.heap.size := by omega
  have d13_2 : w.heap.size + 1 + 1 < v13.heap.size := by omega
  have e13_2 : w.heap.size + 1 + 1 ≠ v13.heap.size := by omega
  clear d12_0 e12_0 d12_1 e12_1 d12_2 e12_2 c12_0 c12_1 c12_2 c12_3 c12_4 c12_5 g12_0 g12_1 B12 st13 R12_0 R12_1 hr hb13
  obtain ⟨aC, cC, rfl⟩ := R13_2.out.slice
  have HCm : Hid (KRow v13 (v12.heap.size) (v13.heap.size) (.slice aC 4 cC) 4 (mat (cellD DA))) := Lib.hid (by rw [← HSA.out.isMat]; exact R13_2.out)
  obtain ⟨G, _, _, eG, hG1, hG2, _⟩ := HCm.out.put (i := 0) (j := 0) (by decide) (by decide)
  subst eG
  clear HCm
  have HAm : Hid (KRow v13 (la) (ha) (.slice aa 4 ca) 4 (mat (cellD DA))) := Lib.hid (by rw [← HSA.out.isMat]; exact R13_0.out)
  have HBm : Hid (KRow v13 (lb) (hb) (.slice ab 4 cb) 4 (mat (cellD DB))) := Lib.hid (by rw [← HSB.out.isMat]; exact R13_1.out)
  obtain ⟨GA, _, _, eGA, _, hGA, _⟩ := HAm.out.cell (mat_at _ (i := 0) (by decide))
  obtain ⟨GB, _, _, eGB, _, hGB, _⟩ := HBm.out.cell (mat_at _ (i := 0) (by decide))
  subst eGA
  subst eGB
  clear HAm HBm
  go_wp2_with fail
  obtain ⟨q14, hq14⟩ : ∃ q, q = (v13.alloc (.cells #[.slice (some ⟨G, 0, none⟩) 4 cC, .int .i64 (ta + tb)] 28)) := ⟨_, rfl⟩
  have hb14 : Below v13.heap.size v13 q14 := by rw [hq14]; go_grown
  have sz14 : v13.heap.size + 1 ≤ q14.heap.size := by rw [hq14]; simp
  have c14_0 : q14.cell? ⟨w.heap.size, 0, none⟩ = some (.slice (some ⟨GA, 0, none⟩) 4 ca) := by rw [(bcell hb14).1 _ _ (by omega)]; exact c13_0
  have c14_1 : q14.cell? ⟨w.heap.size, 1, none⟩ = some (.int .i64 ta) := by rw [(bcell hb14).1 _ _ (by omega)]; exact c13_1
  have c14_2 : q14.cell? ⟨w.heap.size + 1, 0, none⟩ = some (.slice (some ⟨GB, 0, none⟩) 4 cb) := by rw [(bcell hb14).1 _ _ (by omega)]; exact c13_2
  have c14_3 : q14.cell? ⟨w.heap.size + 1, 1, none⟩ = some (.int .i64 tb) := by rw [(bcell hb14).1 _ _ (by omega)]; exact c13_3
  have c14_4 : q14.cell? ⟨w.heap.size + 1 + 1, 0, none⟩ = some (.slice none 0 0) := by rw [(bcell hb14).1 _ _ (by omega)]; exact c13_4
  have c14_5 : q14.cell? ⟨w.heap.size + 1 + 1, 1, none⟩ = some (.int .i64 0) := by rw [(bcell hb14).1 _ _ (by omega)]; exact c13_5
  have c14_6 : q14.cell? ⟨v13.heap.size, 0, none⟩ = some (.slice (some ⟨G, 0, none⟩) 4 cC) := by rw [hq14, new_at (by simp)]; rfl
  have c14_7 : q14.cell? ⟨v13.heap.size, 1, none⟩ = some (.int .i64 (ta + tb)) := by rw [hq14, new_at (by simp)]; rfl
  have g14_0 : q14.frozen? ⟨w.heap.size + 1 + 1, 0, none⟩ = false := by rw [(bcell hb14).2 _ _ (by omega)]; exact g13_0
  have g14_1 : q14.frozen? ⟨w.heap.size + 1 + 1, 1, none⟩ = false := by rw [(bcell hb14).2 _ _ (by omega)]; exact g13_1
  have g14_2 : q14.frozen? ⟨v13.heap.size, 0, none⟩ = false := by rw [hq14, new_frz (by simp)]
  have g14_3 : q14.frozen? ⟨v13.heap.size, 1, none⟩ = false := by rw [hq14, new_frz (by simp)]
  have B14 : Hid (Below w.heap.size w q14) := Lib.hid (B13.out.trans (hb14.mono (by omega)))
  have R14_0 : Hid (KRow q14 (la) (ha) (.slice (some ⟨GA, 0, none⟩) 4 ca) 4 DA) := Lib.hid (R13_0.out.below hb14 (by omega))
  have R14_1 : Hid (KRow q14 (lb) (hb) (.slice (some ⟨GB, 0, none⟩) 4 cb) 4 DB) := Lib.hid (R13_1.out.below hb14 (by omega))
  have R14_2 : Hid (KRow q14 (v12.heap.size) (v13.heap.size) (.slice (some ⟨G, 0, none⟩) 4 cC) 4 DA) := Lib.hid (R13_2.out.below hb14 (by omega))
  rw [← hq14]
  have d14_0 : w.heap.size < q14.heap.size := by omega
  have e14_0 : w.heap.size ≠ q14.heap.size := by omega
  have d14_1 : w.heap.size + 1 < q14.heap.size := by omega
  have e14_1 : w.heap.size + 1 ≠ q14.heap.size := by omega
  have d14_2 : w.heap.size + 1 + 1 < q14.heap.size := by omega
  have e14_2 : w.heap.size + 1 + 1 ≠ q14.heap.size := by omega
  have d14_3 : v13.heap.size < q14.heap.size := by omega
  have e14_3 : v13.heap.size ≠ q14.heap.size := by omega
  clear hq14 hb14 d13_0 e13_0 d13_1 e13_1 d13_2 e13_2 c13_0 c13_1 c13_2 c13_3 c13_4 c13_5 g13_0 g13_1 B13 R13_0 R13_1 R13_2
  have HK0 := Lib.hid c14_0
  have HK1 := Lib.hid c14_1
  have HK2 := Lib.hid c14_2
  have HK3 := Lib.hid c14_3
  have HK4 := Lib.hid c14_4
  have HK5 := Lib.hid c14_5
  have HRf := Lib.hid g14_0
  have HRg := Lib.hid g14_1
  have HFA : Hid (KRow q14 (la) (ha) (.slice (some ⟨GA, 0, none⟩) 4 ca) 4 (mat (cellD DA))) := Lib.hid (by rw [← HSA.out.isMat]; exact R14_0.out)
  have HFB : Hid (KRow q14 (lb) (hb) (.slice (some ⟨GB, 0, none⟩) 4 cb) 4 (mat (cellD DB))) := Lib.hid (by rw [← HSB.out.isMat]; exact R14_1.out)
  have HBX0 : Hid (BoxL q14 q14 (v12.heap.size) (v13.heap.size) (v12.heap.size) (v13.heap.size) (some ⟨G, 0, none⟩) cC (ta + tb) (gp (cellD DA) (cellD DB) (16 * 0))) := by
    show BoxL _ _ _ _ _ _ _ _ _ _
    rw [Nat.mul_zero, gp_zero]
    exact ⟨Below.refl _ _, by omega, Nat.le_refl _, .inr (by omega), by omega, by omega, fun o ho => by rcases (show o = 0 ∨ o = 1 by omega) with rfl | rfl; exact g14_2; exact g14_3, c14_6, c14_7, by rw [← HSA.out.isMat]; exact R14_2.out⟩
  have HQB := B14
  have HRA := R14_0
  have HRB := R14_1
  clear c14_0 c14_1 c14_2 c14_3 c14_4 c14_5 c14_6 c14_7 g14_0 g14_1 g14_2 g14_3 R14_0 R14_1 R14_2 B14 d14_0 e14_0 d14_1 e14_1 d14_2 e14_2 d14_3 e14_3
  go_loopw [7] (fun i wr => ∃ r : Nat, r ≤ 4 ∧ i = .int .i64 (r : Int) ∧ Hid (BoxL q14 wr (v12.heap.size) (v13.heap.size) (v12.heap.size) (v13.heap.size) (some ⟨G, 0, none⟩) cC (ta + tb) (gp (cellD DA) (cellD DB) (16 * r)))) (fun i _ => 4 - (intOf i).toNat)
  case atStart => exact ⟨0, Nat.zero_le _, rfl, HBX0⟩
  case round =>
    obtain ⟨r, hkk, rfl, hBX⟩ := hrel
    clear HBX0
    have hXs := hBX.out.size
    have hHs := hBX.out.hi
    have hbl := hBX.out.below.size
    by_cases hlt : r < 4
    case neg =>
      obtain rfl : r = 4 := by omega
      have hge : ¬ (((4 : Nat) : Int) < 4) := by omega
      have x0 := hBX.out.c0
      have x1 := hBX.out.c1
      have hd0 : w.heap.size < wr.heap.size := by omega
      have RA : Hid (KRow wr (la) (ha) (.slice (some ⟨GA, 0, none⟩) 4 ca) 4 DA) := HRA.out.below hBX.out.below (by omega)
      have RC : Hid (KRow wr (v12.heap.size) (v13.heap.size) (.slice (some ⟨G, 0, none⟩) 4 cC) 4 (sumD DA DB)) := by
        have h := hBX.out.row
        rw [mat_congr (gp_all (cellD DA) (cellD DB))] at h
        exact Lib.hid h
      have a0 := hBX.out.keep (b := w.heap.size) (by omega) HK0.out
      have a1 := hBX.out.keep (b := w.heap.size) (by omega) HK1.out
      have b0 := hBX.out.keep (b := w.heap.size + 1 + 1) (by omega) HK4.out
      have b1 := hBX.out.keep (b := w.heap.size + 1 + 1) (by omega) HK5.out
      have bf0 := hBX.out.keepf (b := w.heap.size + 1 + 1) (o := 0) (by omega) HRf.out
      have bf1 := hBX.out.keepf (b := w.heap.size + 1 + 1) (o := 1) (by omega) HRg.out
      have HBw : Hid (Below w.heap.size w wr) := HQB.out.trans (hBX.out.below.mono (by omega))
      clear hBX HK0 HK1 HK2 HK3 HK4 HK5 HRf HRg HQB HRA HRB HFA HFB
      cases hss : skB (ta + tb) (sumD DA DB) with
      | false =>
        have hno : mgB ta DA tb DB = false := by unfold mgB; rw [hsa, hsb, hss]; rfl
        have HE : Hid (mgB ta DA tb DB = false ∧ mgD ta DA tb DB = DA ∧ mgT ta DA tb DB = ta) := Lib.hid ⟨hno, (mg_no hno).1, (mg_no hno).2⟩
        clear hno
        go_wp2_with fail
        go_at_call 31
        refine (sskok_any (v12.heap.size) (v13.heap.size) 4 _ (ta + tb) (sumD DA DB) _ RC.out (by omega) HTS.out).mono ?_
        rw [hss]
        rintro e v21 ⟨rfl, hb21⟩
        have sz21 : wr.heap.size ≤ v21.heap.size := hb21.size
        have st21 : Below wr.heap.size wr v21 := hb21
        have c21_0 : v21.cell? ⟨w.heap.size, 0, none⟩ = some (.slice (some ⟨GA, 0, none⟩) 4 ca) := by rw [(bcell st21).1 _ _ (by omega)]; exact a0
        have c21_1 : v21.cell? ⟨w.heap.size, 1, none⟩ = some (.int .i64 ta) := by rw [(bcell st21).1 _ _ (by omega)]; exact a1
        have c21_2 : v21.cell? ⟨w.heap.size + 1 + 1, 0, none⟩ = some (.slice none 0 0) := by rw [(bcell st21).1 _ _ (by omega)]; exact b0
        have c21_3 : v21.cell? ⟨w.heap.size + 1 + 1, 1, none⟩ = some (.int .i64 0) := by rw [(bcell st21).1 _ _ (by omega)]; exact b1
        have c21_4 : v21.cell? ⟨v13.heap.size, 0, none⟩ = some (.slice (some ⟨G, 0, none⟩) 4 cC) := by rw [(bcell st21).1 _ _ (by omega)]; exact x0
        have c21_5 : v21.cell? ⟨v13.heap.size, 1, none⟩ = some (.int .i64 (ta + tb)) := by rw [(bcell st21).1 _ _ (by omega)]; exact x1
        have g21_0 : v21.frozen? ⟨w.heap.size + 1 + 1, 0, none⟩ = false := by rw [(bcell st21).2 _ _ (by omega)]; exact bf0
        have g21_1 : v21.frozen? ⟨w.heap.size + 1 + 1, 1, none⟩ = false := by rw [(bcell st21).2 _ _ (by omega)]; exact bf1
        have B21 : Hid (Below w.heap.size w v21) := HBw.out.trans (st21.mono (by omega))
        have R21_0 : Hid (KRow v21 (la) (ha) (.slice (some ⟨GA, 0, none⟩) 4 ca) 4 DA) := RA.out.below st21 (by omega)
        have R21_1 : Hid (KRow v21 (v12.heap.size) (v13.heap.size) (.slice (some ⟨G, 0, none⟩) 4 cC) 4 (sumD DA DB)) := RC.out.below st21 (by omega)
        have d21_0 : w.heap.size < v21.heap.size := by omega
        have e21_0 : w.heap.size ≠ v21.heap.size := by omega
        have d21_1 : w.heap.size + 1 + 1 < v21.heap.size := by omega
        have e21_1 : w.heap.size + 1 + 1 ≠ v21.heap.size := by omega
        have d21_2 : v13.heap.size < v21.heap.size := by omega
        have e21_2 : v13.heap.size ≠ v21.heap.size := by omega
        clear a0 a1 b0 b1 x0 x1 bf0 bf1 HBw st21 RA RC hb21
        go_wp2_with fail
        go_at_call 69
        refine (scpk_any la ha 4 _ ta DA _ R21_0.out (by omega)).mono ?_
        rintro e v22 ⟨vD, rfl, hr, hb22⟩
        have sz22 : v21.heap.size ≤ v22.heap.size := hb22.size
        have st22 : Below v21.heap.size v21 v22 := hb22
        have c22_0 : v22.cell? ⟨w.heap.size, 0, none⟩ = some (.slice (some ⟨GA, 0, none⟩) 4 ca) := by rw [(bcell st22).1 _ _ (by omega)]; exact c21_0
        have c22_1 : v22.cell? ⟨w.heap.size, 1, none⟩ = some (.int .i64 ta) := by rw [(bcell st22).1 _ _ (by omega)]; exact c21_1
        have c22_2 : v22.cell? ⟨w.heap.size + 1 + 1, 0, none⟩ = some (.slice none 0 0) := by rw [(bcell st22).1 _ _ (by omega)]; exact c21_2
        have c22_3 : v22.cell? ⟨w.heap.size + 1 + 1, 1, none⟩ = some (.int .i64 0) := by rw [(bcell st22).1 _ _ (by omega)]; exact c21_3
        have c22_4 : v22.cell? ⟨v13.heap.size, 0, none⟩ = some (.slice (some ⟨G, 0, none⟩) 4 cC) := by rw [(bcell st22).1 _ _ (by omega)]; exact c21_4
        have c22_5 : v22.cell? ⟨v13.heap.size, 1, none⟩ = some (.int .i64 (ta + tb)) := by rw [(bcell st22).1 _ _ (by omega)]; exact c21_5
        have g22_0 : v22.frozen? ⟨w.heap.size + 1 + 1, 0, none⟩ = false := by rw [(bcell st22).2 _ _ (by omega)]; exact g21_0
        have g22_1 : v22.frozen? ⟨w.heap.size + 1 + 1, 1, none⟩ = false := by rw [(bcell st22).2 _ _ (by omega)]; exact g21_1
        have B22 : Hid (Below w.heap.size w v22) := B21.out.trans (st22.mono (by omega))
        have R22_0 : Hid (KRow v22 (la) (ha) (.slice (some ⟨GA, 0, none⟩) 4 ca) 4 DA) := R21_0.out.below st22 (by omega)
        have R22_1 : Hid (KRow v22 (v12.heap.size) (v13.heap.size) (.slice (some ⟨G, 0, none⟩) 4 cC) 4 (sumD DA DB)) := R21_1.out.below st22 (by omega)
        have R22_2 : Hid (KRow v22 (v21.heap.size) (v22.heap.size) vD 4 DA) := hr
        have d22_0 : w.heap.size < v22.heap.size := by omega
        have e22_0 : w.heap.size ≠ v22.heap.size := by omega
        have d22_1 : w.heap.size + 1 + 1 < v22.heap.size := by omega
        have e22_1 : w.heap.size + 1 + 1 ≠ v22.heap.size := by omega
        have d22_2 : v13.heap.size < v22.heap.size := by omega
        have e22_2 : v13.heap.size ≠ v22.heap.size := by omega
        clear d21_0 e21_0 d21_1 e21_1 d21_2 e21_2 c21_0 c21_1 c21_2 c21_3 c21_4 c21_5 g21_0 g21_1 B21 st22 R21_0 R21_1 hr hb22
        obtain ⟨aD, cD, rfl⟩ := R22_2.out.slice
        obtain ⟨r0, r1, HRr, HBr⟩ := res2 (R := w.heap.size + 1 + 1) (t := ta) B22.out R22_2.out (by omega) (by omega) (by omega) (by omega) c22_2 c22_3
        clear R22_0 R22_1 R22_2
        go_wp2_with fail
        refine bodyPost_ret (v := .tuple #[.agg #[.slice aD 4 cD, .int .i64 ta], .bool false]) (by simp [results, Try.results39, go_sem, r0, r1]) rfl ⟨_, by rw [HE.out.1, HE.out.2.2], ?_, HBr.out⟩
        rw [HE.out.2.1, HLA.out]; exact HRr.out
      | true =>
        have hye : mgB ta DA tb DB = true := by unfold mgB; rw [hsa, hsb, hss]; rfl
        have HE : Hid (mgB ta DA tb DB = true ∧ mgD ta DA tb DB = sumD DA DB ∧ mgT ta DA tb DB = ta + tb) := Lib.hid ⟨hye, (mg_yes hye).1, (mg_yes hye).2⟩
        clear hye
        go_wp2_with fail
        go_at_call 31
        refine (sskok_any (v12.heap.size) (v13.heap.size) 4 _ (ta + tb) (sumD DA DB) _ RC.out (by omega) HTS.out).mono ?_
        rw [hss]
        rintro e v21 ⟨rfl, hb21⟩
        have sz21 : wr.heap.size ≤ v21.heap.size := hb21.size
        have st21 : Below wr.heap.size wr v21 := hb21
        have c21_0 : v21.cell? ⟨w.heap.size, 0, none⟩ = some (.slice (some ⟨GA, 0, none⟩) 4 ca) := by rw [(bcell st21).1 _ _ (by omega)]; exact a0
        have c21_1 : v21.cell? ⟨w.heap.size, 1, none⟩ = some (.int .i64 ta) := by rw [(bcell st21).1 _ _ (by omega)]; exact a1
        have c21_2 : v21.cell? ⟨w.heap.size + 1 + 1, 0, none⟩ = some (.slice none 0 0) := by rw [(bcell st21).1 _ _ (by omega)]; exact b0
        have c21_3 : v21.cell? ⟨w.heap.size + 1 + 1, 1, none⟩ = some (.int .i64 0) := by rw [(bcell st21).1 _ _ (by omega)]; exact b1
        have c21_4 : v21.cell? ⟨v13.heap.size, 0, none⟩ = some (.slice (some ⟨G, 0, none⟩) 4 cC) := by rw [(bcell st21).1 _ _ (by omega)]; exact x0
        have c21_5 : v21.cell? ⟨v13.heap.size, 1, none⟩ = some (.int .i64 (ta + tb)) := by rw [(bcell st21).1 _ _ (by omega)]; exact x1
        have g21_0 : v21.frozen? ⟨w.heap.size + 1 + 1, 0, none⟩ = false := by rw [(bcell st21).2 _ _ (by omega)]; exact bf0
        have g21_1 : v21.frozen? ⟨w.heap.size + 1 + 1, 1, none⟩ = false := by rw [(bcell st21).2 _ _ (by omega)]; exact bf1
        have B21 : Hid (Below w.heap.size w v21) := HBw.out.trans (st21.mono (by omega))
        have R21_0 : Hid (KRow v21 (la) (ha) (.slice (some ⟨GA, 0, none⟩) 4 ca) 4 DA) := RA.out.below st21 (by omega)
        have R21_1 : Hid (KRow v21 (v12.heap.size) (v13.heap.size) (.slice (some ⟨G, 0, none⟩) 4 cC) 4 (sumD DA DB)) := RC.out.below st21 (by omega)
        have d21_0 : w.heap.size < v21.heap.size := by omega
        have e21_0 : w.heap.size ≠ v21.heap.size := by omega
        have d21_1 : w.heap.size + 1 + 1 < v21.heap.size := by omega
        have e21_1 : w.heap.size + 1 + 1 ≠ v21.heap.size := by omega
        have d21_2 : v13.heap.size < v21.heap.size := by omega
        have e21_2 : v13.heap.size ≠ v21.heap.size := by omega
        clear a0 a1 b0 b1 x0 x1 bf0 bf1 HBw st21 RA RC hb21
        obtain ⟨r0, r1, HRr, HBr⟩ := res2 (R := w.heap.size + 1 + 1) (t := (ta + tb)) B21.out R21_1.out (by omega) (by omega) (by omega) (by omega) c21_2 c21_3
        clear R21_0 R21_1
        go_wp2_with fail
        refine bodyPost_ret (v := .tuple #[.agg #[.slice (some ⟨G, 0, none⟩) 4 cC, .int .i64 (ta + tb)], .bool true]) (by simp [results, Try.results39, go_sem, r0, r1]) rfl ⟨_, by rw [HE.out.1, HE.out.2.2], ?_, HBr.out⟩
        rw [HE.out.2.1, sumD_len]; exact HRr.out
    case pos =>
      have r0 : (0 : Int) ≤ (r : Int) := by omega
      have r1 : (r : Int) < 4 := by omega
      obtain ⟨GA2, ax, ay, ea, _, _, sa0, srowa⟩ := HFA.out.cell (mat_at (cellD DA) hlt)
      obtain rfl : GA = GA2 := by simpa using ea
      rw [mrow_len] at sa0 srowa
      obtain ⟨ga, es, _, hga, _⟩ := row1_cell srowa (mrow_at (cellD DA) r (j := 0) (by decide))
      subst es
      have HSRA : Hid (∀ j, j < 16 → q14.cell? ⟨ga, j, none⟩ = some (.int .i64 (cellD DA r j))) := Lib.hid fun j hj => by
        obtain ⟨g2, e2, _, _, h2⟩ := row1_cell srowa (mrow_at (cellD DA) r hj)
        obtain rfl : ga = g2 := by simpa using e2
        exact h2
      obtain ⟨GB2, bx, by_, eb, _, _, sb0, srowb⟩ := HFB.out.cell (mat_at (cellD DB) hlt)
      obtain rfl : GB = GB2 := by simpa using eb
      rw [mrow_len] at sb0 srowb
      obtain ⟨gb, es, _, hgb, _⟩ := row1_cell srowb (mrow_at (cellD DB) r (j := 0) (by decide))
      subst es
      have HSRB : Hid (∀ j, j < 16 → q14.cell? ⟨gb, j, none⟩ = some (.int .i64 (cellD DB r j))) := Lib.hid fun j hj => by
        obtain ⟨g2, e2, _, _, h2⟩ := row1_cell srowb (mrow_at (cellD DB) r hj)
        obtain rfl : gb = g2 := by simpa using e2
        exact h2
      have HSA0 := Lib.hid sa0
      have HSB0 := Lib.hid sb0
      have HBY0 : Hid (BoxL q14 wr (v12.heap.size) (v13.heap.size) (v12.heap.size) (v13.heap.size) (some ⟨G, 0, none⟩) cC (ta + tb) (gp (cellD DA) (cellD DB) (16 * r + 0))) := hBX
      clear srowa srowb sa0 sb0 hBX ea eb hXs hHs hbl
      go_wp2_with fail
      go_loopw [8] (fun i wr => ∃ c : Nat, c ≤ 16 ∧ i = .int .i64 (c : Int) ∧ Hid (BoxL q14 wr (v12.heap.size) (v13.heap.size) (v12.heap.size) (v13.heap.size) (some ⟨G, 0, none⟩) cC (ta + tb) (gp (cellD DA) (cellD DB) (16 * r + c)))) (fun i _ => 16 - (intOf i).toNat)
      case atStart => exact ⟨0, Nat.zero_le _, rfl, HBY0⟩
      case round =>
        clear HBY0
        obtain ⟨cc, hcc, rfl, hBZ⟩ := hrel
        by_cases hlc : cc < 16
        case neg =>
          obtain rfl : cc = 16 := by omega
          have hge : ¬ (((16 : Nat) : Int) < 16) := by omega
          have HN : Hid (BoxL q14 wr (v12.heap.size) (v13.heap.size) (v12.heap.size) (v13.heap.size) (some ⟨G, 0, none⟩) cC (ta + tb) (gp (cellD DA) (cellD DB) (16 * (r + 1)))) := by
            show BoxL _ _ _ _ _ _ _ _ _ _
            rw [Nat.mul_succ]
            exact hBZ.out
          clear hBZ
          go_wp2_with fail
          go_roundw
          case rel => exact ⟨r + 1, by omega, by go_num, HN⟩
          case measure => simp [intOf]; omega
        case pos =>
        have hHs := hBZ.out.hi
        have hXs := hBZ.out.size
        have hbl := hBZ.out.below.size
        have a0 := hBZ.out.keep (b := w.heap.size) (by omega) HK0.out
        have b0 := hBZ.out.keep (b := w.heap.size + 1) (by omega) HK2.out
        have a2 := hBZ.out.keep (b := GA) (by omega) HSA0.out
        have b2 := hBZ.out.keep (b := GB) (by omega) HSB0.out
        have za0 := hBZ.out.keep (b := ga) (by omega) (HSRA.out cc hlc)
        have zb0 := hBZ.out.keep (b := gb) (by omega) (HSRB.out cc hlc)
        have x0 := hBZ.out.c0
        obtain ⟨G2, ty, g, eG, hg1, hg2, hg3, hg4, t0, t1, tf, hput⟩ := hBZ.out.drew.put hlt hlc
        obtain rfl : G = G2 := by simpa using eG
        rw [gp_here] at t1
        have hb1 := HSA.out.cl r cc
        have hb2 := HSB.out.cl r cc
        obtain ⟨za, hza⟩ : ∃ z, z = cellD DA r cc := ⟨_, rfl⟩
        obtain ⟨zb, hzb⟩ : ∃ z, z = cellD DB r cc := ⟨_, rfl⟩
        rw [← hza] at za0 hb1 t1
        rw [← hzb] at zb0 hb2
        have HN := Lib.hid ((hput (za + zb)).congr (gp_step (cellD DA) (cellD DB) hlc (by rw [hza, hzb])))
        have t0' : wr.cell? ⟨G, r, none⟩ = some (.slice (some ⟨g, 0, none⟩) 16 ty) := t0
        have t1' : wr.cell? ⟨g, cc, none⟩ = some (.int .i64 za) := t1
        have tf' : wr.frozen? ⟨g, cc, none⟩ = false := tf
        have q4 : -9223372036854775808 ≤ za + zb := by omega
        have q5 : za + zb ≤ 9223372036854775807 := by omega
        have c0' : (0 : Int) ≤ (cc : Int) := by omega
        have c1' : (cc : Int) < 16 := by omega
        clear hput hBZ hza hzb hb1 hb2 eG t0 t1 tf
        go_wp2_with fail
        go_region
        all_goals
          go_wp2_with fail
          go_roundw
          case rel => exact ⟨cc + 1, by omega, by go_num, HN⟩
          case measure => simp [intOf]; omega

end Go.Proofs.Ytophppnllkadoaa
