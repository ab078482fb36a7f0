/- MergeSketch of the program. -/
import Derived.Test.YtophppnllkadoaaK13
import Derived.Test.YtophppnllkadoaaK10
namespace Go.Proofs.Ytophppnllkadoaa
open Go.RowKit


/-- The sum of two sketches, cell by cell. -/
def sumD (DA DB : List (List Int)) : List (List Int) := mat fun i j => cellD DA i j + cellD DB i j
noncomputable def mgB (ta : Int) (DA : List (List Int)) (tb : Int) (DB : List (List Int)) : Bool := skB ta DA && (skB tb DB && skB (ta + tb) (sumD DA DB))
noncomputable def mgD (ta : Int) (DA : List (List Int)) (tb : Int) (DB : List (List Int)) : List (List Int) := if mgB ta DA tb DB = true then sumD DA DB else DA
noncomputable def mgT (ta : Int) (DA : List (List Int)) (tb : Int) (DB : List (List Int)) : Int := if mgB ta DA tb DB = true then ta + tb else ta
theorem mg_no {ta tb : Int} {DA DB : List (List Int)} (h : mgB ta DA tb DB = false) : mgD ta DA tb DB = DA ∧ mgT ta DA tb DB = ta := by unfold mgD mgT; rw [h]; exact ⟨rfl, rfl⟩
theorem mg_yes {ta tb : Int} {DA DB : List (List Int)} (h : mgB ta DA tb DB = true) : mgD ta DA tb DB = sumD DA DB ∧ mgT ta DA tb DB = ta + tb := by unfold mgD mgT; rw [h]; exact ⟨rfl, rfl⟩
theorem sumD_len (DA DB : List (List Int)) : (sumD DA DB).length = 4 := mat_len _
/-- A sketch stored in the result. -/
theorem res2 {w v : World} {R lo hi n c : Nat} {a : Option Addr} {t : Int} {u0 u1 : Value} {D : List (List Int)} (hb : Below w.heap.size w v) (hr : KRow v lo hi (.slice a n c) n D) (hR : w.heap.size ≤ R) (hl : R < lo ∨ hi ≤ R) (hlo : w.heap.size ≤ lo) (hhi : hi ≤ v.heap.size) (c0 : v.cell? ⟨R, 0, none⟩ = some u0) (c1 : v.cell? ⟨R, 1, none⟩ = some u1) :
    ((v.setCell ⟨R, 0, none⟩ (.slice a n c)).setCell ⟨R, 1, none⟩ (.int .i64 t)).cell? ⟨R, 0, none⟩ = some (.slice a n c) ∧ ((v.setCell ⟨R, 0, none⟩ (.slice a n c)).setCell ⟨R, 1, none⟩ (.int .i64 t)).cell? ⟨R, 1, none⟩ = some (.int .i64 t) ∧
    Hid (KRow ((v.setCell ⟨R, 0, none⟩ (.slice a n c)).setCell ⟨R, 1, none⟩ (.int .i64 t)) w.heap.size ((v.setCell ⟨R, 0, none⟩ (.slice a n c)).setCell ⟨R, 1, none⟩ (.int .i64 t)).heap.size (.slice a n c) n D) ∧
    Hid (Below w.heap.size w ((v.setCell ⟨R, 0, none⟩ (.slice a n c)).setCell ⟨R, 1, none⟩ (.int .i64 t))) := by
  refine ⟨?_, ?_, ?_, ?_⟩
  · rw [World.cell?_setCell_other _ _ _ _ (by simp)]; exact World.cell?_setCell_same' _ _ _ (by rw [c0]; rfl)
  · exact World.cell?_setCell_same' _ _ _ (by rw [World.cell?_setCell_other _ _ _ _ (by simp), c1]; rfl)
  · exact Lib.hid (((hr.setCell (p := ⟨R, 0, none⟩) hl _).setCell (p := ⟨R, 1, none⟩) hl _).wide hlo (by simpa [World.setCell] using hhi))
  · exact Lib.hid ((hb.setCell (p := ⟨R, 0, none⟩) hR _).setCell (p := ⟨R, 1, none⟩) hR _)

set_option maxRecDepth 100000 in
set_option maxHeartbeats 4000000 in
theorem imerge_any (la ha na lb hb nb : Nat) (va vb : Value) (ta tb : Int) (DA DB : List (List Int)) (w : World) (hra : KRow w la ha va na DA) (hrb : KRow w lb hb vb nb DB) (hha : ha ≤ w.heap.size) (hhb : hb ≤ w.heap.size) (hta : I64 ta) (htb : I64 tb) : Calls Try.prog 19 #[.agg #[va, .int .i64 ta], .agg #[vb, .int .i64 tb]] w (SkBPost (mgT ta DA tb DB) (mgD ta DA tb DB) (mgB ta DA tb DB) w) := by
  obtain ⟨aa, ca, rfl⟩ := hra.slice
  obtain ⟨ab, cb, rfl⟩ := hrb.slice
  have HLA := Lib.hid hra.2
  have HLB := Lib.hid hrb.2
  have HA := Lib.hid hra
  have HB := Lib.hid hrb
  have HTA := Lib.hid hta
  have HTB := Lib.hid htb
  clear hra hrb hta htb
  cases hsa : skB ta DA with
  | false =>
    have hno : mgB ta DA tb DB = false := by unfold mgB; rw [hsa]; rfl
    rw [hno, (mg_no hno).1, (mg_no hno).2]
    clear hno
    go_enter Try.func19, Try.ntmps19
    go_wp2_with fail
    go_at_call 33
    refine (iskok_any la ha na _ ta DA _ (HA.out.below (B := w.heap.size) (by go_grown) (by omega)) (by simp; omega) HTA.out).mono ?_
    rw [hsa]
    rintro e v11 ⟨rfl, hb11⟩
    have sz11 : w.heap.size + 3 ≤ v11.heap.size := by have hh := hb11.size; simp at hh; omega
    have st11 : Below w.heap.size w v11 := Below.trans (by go_grown) (hb11.mono (by simp <;> omega))
    have c11_0 : v11.cell? ⟨w.heap.size, 0, none⟩ = some (.slice aa na ca) := by rw [(bcell hb11).1 _ _ (by simp <;> omega), old_box (by simp <;> omega), old_box (by simp <;> omega)]; first | (rw [new_at (by simp)]; rfl) | simp
    have c11_1 : v11.cell? ⟨w.heap.size, 1, none⟩ = some (.int .i64 ta) := by rw [(bcell hb11).1 _ _ (by simp <;> omega), old_box (by simp <;> omega), old_box (by simp <;> omega)]; first | (rw [new_at (by simp)]; rfl) | simp
    have c11_2 : v11.cell? ⟨w.heap.size + 1, 0, none⟩ = some (.slice ab nb cb) := by rw [(bcell hb11).1 _ _ (by simp <;> omega), old_box (by simp <;> omega)]; first | (rw [new_at (by simp)]; rfl) | simp
    have c11_3 : v11.cell? ⟨w.heap.size + 1, 1, none⟩ = some (.int .i64 tb) := by rw [(bcell hb11).1 _ _ (by simp <;> omega), old_box (by simp <;> omega)]; first | (rw [new_at (by simp)]; rfl) | simp
    have c11_4 : v11.cell? ⟨w.heap.size + 1 + 1, 0, none⟩ = some (.slice none 0 0) := by rw [(bcell hb11).1 _ _ (by simp)]; first | (rw [new_at (by simp)]; rfl) | simp
    have c11_5 : v11.cell? ⟨w.heap.size + 1 + 1, 1, none⟩ = some (.int .i64 0) := by rw [(bcell hb11).1 _ _ (by simp)]; first | (rw [new_at (by simp)]; rfl) | simp
    have g11_0 : v11.frozen? ⟨w.heap.size + 1 + 1, 0, none⟩ = false := by rw [(bcell hb11).2 _ _ (by simp), new_frz (by simp)]
    have g11_1 : v11.frozen? ⟨w.heap.size + 1 + 1, 1, none⟩ = false := by rw [(bcell hb11).2 _ _ (by simp), new_frz (by simp)]
    have B11 : Hid (Below w.heap.size w v11) := st11
    have R11_0 : Hid (KRow v11 (la) (ha) (.slice aa na ca) na DA) := HA.out.below st11 (by omega)
    have R11_1 : Hid (KRow v11 (lb) (hb) (.slice ab nb cb) nb DB) := HB.out.below st11 (by omega)
    have d11_0 : w.heap.size < v11.heap.size := by omega
    have e11_0 : w.heap.size ≠ v11.heap.size := by omega
    have d11_1 : w.heap.size + 1 < v11.heap.size := by omega
    have e11_1 : w.heap.size + 1 ≠ v11.heap.size := by omega
    have d11_2 : w.heap.size + 1 + 1 < v11.heap.size := by omega
    have e11_2 : w.heap.size + 1 + 1 ≠ v11.heap.size := by omega
    clear st11 HA HB hb11
    go_wp2_with fail
    go_at_call 55
    refine (icpk_any la ha na _ ta DA _ R11_0.out (by omega)).mono ?_
    rintro e v12 ⟨vC, rfl, hr, hb12⟩
    have sz12 : v11.heap.size ≤ v12.heap.size := hb12.size
    have st12 : Below v11.heap.size v11 v12 := hb12
    have c12_0 : v12.cell? ⟨w.heap.size, 0, none⟩ = some (.slice aa na ca) := by rw [(bcell st12).1 _ _ (by omega)]; exact c11_0
    have c12_1 : v12.cell? ⟨w.heap.size, 1, none⟩ = some (.int .i64 ta) := by rw [(bcell st12).1 _ _ (by omega)]; exact c11_1
    have c12_2 : v12.cell? ⟨w.heap.size + 1, 0, none⟩ = some (.slice ab nb cb) := by rw [(bcell st12).1 _ _ (by omega)]; exact c11_2
    have c12_3 : v12.cell? ⟨w.heap.size + 1, 1, none⟩ = some (.int .i64 tb) := by rw [(bcell st12).1 _ _ (by omega)]; exact c11_3
    have c12_4 : v12.cell? ⟨w.heap.size + 1 + 1, 0, none⟩ = some (.slice none 0 0) := by rw [(bcell st12).1 _ _ (by omega)]; exact c11_4
    have c12_5 : v12.cell? ⟨w.heap.size + 1 + 1, 1, none⟩ = some (.int .i64 0) := by rw [(bcell st12).1 _ _ (by omega)]; exact c11_5
    have g12_0 : v12.frozen? ⟨w.heap.size + 1 + 1, 0, none⟩ = false := by rw [(bcell st12).2 _ _ (by omega)]; exact g11_0
    have g12_1 : v12.frozen? ⟨w.heap.size + 1 + 1, 1, none⟩ = false := by rw [(bcell st12).2 _ _ (by omega)]; exact g11_1
    have B12 : Hid (Below w.heap.size w v12) := B11.out.trans (st12.mono (by omega))
    have R12_0 : Hid (KRow v12 (la) (ha) (.slice aa na ca) na DA) := R11_0.out.below st12 (by omega)
    have R12_1 : Hid (KRow v12 (lb) (hb) (.slice ab nb cb) nb DB) := R11_1.out.below st12 (by omega)
    have R12_2 : Hid (KRow v12 (v11.heap.size) (v12.heap.size) vC na DA) := hr
    have d12_0 : w.heap.size < v12.heap.size := by omega
    have e12_0 : w.heap.size ≠ v12.heap.size := by omega
    have d12_1 : w.heap.size + 1 < v12.heap.size := by omega
    have e12_1 : w.heap.size + 1 ≠ v12.heap.size := by omega
    have d12_2 : w.heap.size + 1 + 1 < v12.heap.size := by omega
    have e12_2 : w.heap.size + 1 + 1 ≠ v12.heap.size := by omega
    clear d11_0 e11_0 d11_1 e11_1 d11_2 e11_2 c11_0 c11_1 c11_2 c11_3 c11_4 c11_5 g11_0 g11_1 B11 st12 R11_0 R11_1 hr hb12
    obtain ⟨aC, cC, rfl⟩ := R12_2.out.slice
    obtain ⟨r0, r1, HRr, HBr⟩ := res2 (R := w.heap.size + 1 + 1) (t := ta) B12.out R12_2.out (by omega) (by omega) (by omega) (by omega) c12_4 c12_5
    clear R12_0 R12_1 R12_2
    go_wp2_with fail
    refine bodyPost_ret (v := .tuple #[.agg #[.slice aC na cC, .int .i64 ta], .bool false]) (by simp [results, Try.results19, go_sem, r0, r1]) rfl ⟨_, rfl, ?_, HBr.out⟩
    rw [HLA.out]; exact HRr.out
  | true =>
  cases hsb : skB tb DB with
  | false =>
    have hno : mgB ta DA tb DB = false := by unfold mgB; rw [hsa, hsb]; rfl
    rw [hno, (mg_no hno).1, (mg_no hno).2]
    clear hno
    go_enter Try.func19, Try.ntmps19
    go_wp2_with fail
    go_at_call 33
    refine (iskok_any la ha na _ ta DA _ (HA.out.below (B := w.heap.size) (by go_grown) (by omega)) (by simp; omega) HTA.out).mono ?_
    rw [hsa]
    rintro e v11 ⟨rfl, hb11⟩
    have sz11 : w.heap.size + 3 ≤ v11.heap.size := by have hh := hb11.size; simp at hh; omega
    have st11 : Below w.heap.size w v11 := Below.trans (by go_grown) (hb11.mono (by simp <;> omega))
    have c11_0 : v11.cell? ⟨w.heap.size, 0, none⟩ = some (.slice aa na ca) := by rw [(bcell hb11).1 _ _ (by simp <;> omega), old_box (by simp <;> omega), old_box (by simp <;> omega)]; first | (rw [new_at (by simp)]; rfl) | simp
    have c11_1 : v11.cell? ⟨w.heap.size, 1, none⟩ = some (.int .i64 ta) := by rw [(bcell hb11).1 _ _ (by simp <;> omega), old_box (by simp <;> omega), old_box (by simp <;> omega)]; first | (rw [new_at (by simp)]; rfl) | simp
    have c11_2 : v11.cell? ⟨w.heap.size + 1, 0, none⟩ = some (.slice ab nb cb) := by rw [(bcell hb11).1 _ _ (by simp <;> omega), old_box (by simp <;> omega)]; first | (rw [new_at (by simp)]; rfl) | simp
    have c11_3 : v11.cell? ⟨w.heap.size + 1, 1, none⟩ = some (.int .i64 tb) := by rw [(bcell hb11).1 _ _ (by simp <;> omega), old_box (by simp <;> omega)]; first | (rw [new_at (by simp)]; rfl) | simp
    have c11_4 : v11.cell? ⟨w.heap.size + 1 + 1, 0, none⟩ = some (.slice none 0 0) := by rw [(bcell hb11).1 _ _ (by simp)]; first | (rw [new_at (by simp)]; rfl) | simp
    have c11_5 : v11.cell? ⟨w.heap.size + 1 + 1, 1, none⟩ = some (.int .i64 0) := by rw [(bcell hb11).1 _ _ (by simp)]; first | (rw [new_at (by simp)]; rfl) | simp
    have g11_0 : v11.frozen? ⟨w.heap.size + 1 + 1, 0, none⟩ = false := by rw [(bcell hb11).2 _ _ (by simp), new_frz (by simp)]
    have g11_1 : v11.frozen? ⟨w.heap.size + 1 + 1, 1, none⟩ = false := by rw [(bcell hb11).2 _ _ (by simp), new_frz (by simp)]
    have B11 : Hid (Below w.heap.size w v11) := st11
    have R11_0 : Hid (KRow v11 (la) (ha) (.slice aa na ca) na DA) := HA.out.below st11 (by omega)
    have R11_1 : Hid (KRow v11 (lb) (hb) (.slice ab nb cb) nb DB) := HB.out.below st11 (by omega)
    have d11_0 : w.heap.size < v11.heap.size := by omega
    have e11_0 : w.heap.size ≠ v11.heap.size := by omega
    have d11_1 : w.heap.size + 1 < v11.heap.size := by omega
    have e11_1 : w.heap.size + 1 ≠ v11.heap.size := by omega
    have d11_2 : w.heap.size + 1 + 1 < v11.heap.size := by omega
    have e11_2 : w.heap.size + 1 + 1 ≠ v11.heap.size := by omega
    clear st11 HA HB hb11
    go_wp2_with fail
    go_at_call 33
    refine (iskok_any lb hb nb _ tb DB _ R11_1.out (by omega) HTB.out).mono ?_
    rw [hsb]
    rintro e v12 ⟨rfl, hb12⟩
    have sz12 : v11.heap.size ≤ v12.heap.size := hb12.size
    have st12 : Below v11.heap.size v11 v12 := hb12
    have c12_0 : v12.cell? ⟨w.heap.size, 0, none⟩ = some (.slice aa na ca) := by rw [(bcell st12).1 _ _ (by omega)]; exact c11_0
    have c12_1 : v12.cell? ⟨w.heap.size, 1, none⟩ = some (.int .i64 ta) := by rw [(bcell st12).1 _ _ (by omega)]; exact c11_1
    have c12_2 : v12.cell? ⟨w.heap.size + 1, 0, none⟩ = some (.slice ab nb cb) := by rw [(bcell st12).1 _ _ (by omega)]; exact c11_2
    have c12_3 : v12.cell? ⟨w.heap.size + 1, 1, none⟩ = some (.int .i64 tb) := by rw [(bcell st12).1 _ _ (by omega)]; exact c11_3
    have c12_4 : v12.cell? ⟨w.heap.size + 1 + 1, 0, none⟩ = some (.slice none 0 0) := by rw [(bcell st12).1 _ _ (by omega)]; exact c11_4
    have c12_5 : v12.cell? ⟨w.heap.size + 1 + 1, 1, none⟩ = some (.int .i64 0) := by rw [(bcell st12).1 _ _ (by omega)]; exact c11_5
    have g12_0 : v12.frozen? ⟨w.heap.size + 1 + 1, 0, none⟩ = false := by rw [(bcell st12).2 _ _ (by omega)]; exact g11_0
    have g12_1 : v12.frozen? ⟨w.heap.size + 1 + 1, 1, none⟩ = false := by rw [(bcell st12).2 _ _ (by omega)]; exact g11_1
    have B12 : Hid (Below w.heap.size w v12) := B11.out.trans (st12.mono (by omega))
    have R12_0 : Hid (KRow v12 (la) (ha) (.slice aa na ca) na DA) := R11_0.out.below st12 (by omega)
    have R12_1 : Hid (KRow v12 (lb) (hb) (.slice ab nb cb) nb DB) := R11_1.out.below st12 (by omega)
    have d12_0 : w.heap.size < v12.heap.size := by omega
    have e12_0 : w.heap.size ≠ v12.heap.size := by omega
    have d12_1 : w.heap.size + 1 < v12.heap.size := by omega
    have e12_1 : w.heap.size + 1 ≠ v12.heap.size := by omega
    have d12_2 : w.heap.size + 1 + 1 < v12.heap.size := by omega
    have e12_2 : w.heap.size + 1 + 1 ≠ v12.heap.size := by omega
    clear d11_0 e11_0 d11_1 e11_1 d11_2 e11_2 c11_0 c11_1 c11_2 c11_3 c11_4 c11_5 g11_0 g11_1 B11 st12 R11_0 R11_1 hb12
    go_wp2_with fail
    go_at_call 55
    refine (icpk_any la ha na _ ta DA _ R12_0.out (by omega)).mono ?_
    rintro e v13 ⟨vC, rfl, hr, hb13⟩
    have sz13 : v12.heap.size ≤ v13.heap.size := hb13.size
    have st13 : Below v12.heap.size v12 v13 := hb13
    have c13_0 : v13.cell? ⟨w.heap.size, 0, none⟩ = some (.slice aa na ca) := by rw [(bcell st13).1 _ _ (by omega)]; exact c12_0
    have c13_1 : v13.cell? ⟨w.heap.size, 1, none⟩ = some (.int .i64 ta) := by rw [(bcell st13).1 _ _ (by omega)]; exact c12_1
    have c13_2 : v13.cell? ⟨w.heap.size + 1, 0, none⟩ = some (.slice ab nb cb) := by rw [(bcell st13).1 _ _ (by omega)]; exact c12_2
    have c13_3 : v13.cell? ⟨w.heap.size + 1, 1, none⟩ = some (.int .i64 tb) := by rw [(bcell st13).1 _ _ (by omega)]; exact c12_3
    have c13_4 : v13.cell? ⟨w.heap.size + 1 + 1, 0, none⟩ = some (.slice none 0 0) := by rw [(bcell st13).1 _ _ (by omega)]; exact c12_4
    have c13_5 : v13.cell? ⟨w.heap.size + 1 + 1, 1, none⟩ = some (.int .i64 0) := by rw [(bcell st13).1 _ _ (by omega)]; exact c12_5
    have g13_0 : v13.frozen? ⟨w.heap.size + 1 + 1, 0, none⟩ = false := by rw [(bcell st13).2 _ _ (by omega)]; exact g12_0
    have g13_1 : v13.frozen? ⟨w.heap.size + 1 + 1, 1, none⟩ = false := by rw [(bcell st13).2 _ _ (by omega)]; exact g12_1
    have B13 : Hid (Below w.heap.size w v13) := B12.out.trans (st13.mono (by omega))
    have R13_0 : Hid (KRow v13 (la) (ha) (.slice aa na ca) na DA) := R12_0.out.below st13 (by omega)
    have R13_1 : Hid (KRow v13 (lb) (hb) (.slice ab nb cb) nb DB) := R12_1.out.below st13 (by omega)
    have R13_2 : Hid (KRow v13 (v12.heap.size) (v13.heap.size) vC na DA) := hr
    have d13_0 : w.heap.size < v13.heap.size := by omega
    have e13_0 : w.heap.size ≠ v13.heap.size := by omega
    have d13_1 : w.heap.size + 1 < v13.heap.size := by omega
    have e13_1 : w.heap.size + 1 ≠ v13.heap.size := by omega
    have d13_2 : w.heap.size + 1 + 1 < v13.heap.size := by omega
    have e13_2 : w.heap.size + 1 + 1 ≠ v13.heap.size := by omega
    clear d12_0 e12_0 d12_1 e12_1 d12_2 e12_2 c12_0 c12_1 c12_2 c12_3 c12_4 c12_5 g12_0 g12_1 B12 st13 R12_0 R12_1 hr hb13
    obtain ⟨aC, cC, rfl⟩ := R13_2.out.slice
    obtain ⟨r0, r1, HRr, HBr⟩ := res2 (R := w.heap.size + 1 + 1) (t := ta) B13.out R13_2.out (by omega) (by omega) (by omega) (by omega) c13_4 c13_5
    clear R13_0 R13_1 R13_2
    go_wp2_with fail
    refine bodyPost_ret (v := .tuple #[.agg #[.slice aC na cC, .int .i64 ta], .bool false]) (by simp [results, Try.results19, go_sem, r0, r1]) rfl ⟨_, rfl, ?_, HBr.out⟩
    rw [HLA.out]; exact HRr.out
  | true =>
  have HSA := Lib.hid (skB_iff.1 hsa)
  have HSB := Lib.hid (skB_iff.1 hsb)
  obtain rfl : na = 4 := by rw [← HLA.out]; exact HSA.out.1
  obtain rfl : nb = 4 := by rw [← HLB.out]; exact HSB.out.1
  have hta0 := HSA.out.pos
  have hta1 := HSA.out.2.1
  have htb0 := HSB.out.pos
  have htb1 := HSB.out.2.1
  have HTS : Hid (I64 (ta + tb)) := Lib.hid (by unfold I64; omega)
  cases hss : skB (ta + tb) (sumD DA DB) with
  | false =>
    have hno : mgB ta DA tb DB = false := by unfold mgB; rw [hsa, hsb, hss]; rfl
    rw [hno, (mg_no hno).1, (mg_no hno).2]
    clear hno
    go_enter Try.func19, Try.ntmps19
    go_wp2_with fail
    go_at_call 33
    refine (iskok_any la ha 4 _ ta DA _ (HA.out.below (B := w.heap.size) (by go_grown) (by omega)) (by simp; omega) HTA.out).mono ?_
    rw [hsa]
    rintro e v11 ⟨rfl, hb11⟩
    have sz11 : w.heap.size + 3 ≤ v11.heap.size := by have hh := hb11.size; simp at hh; omega
    have st11 : Below w.heap.size w v11 := Below.trans (by go_grown) (hb11.mono (by simp <;> omega))
    have c11_0 : v11.cell? ⟨w.heap.size, 0, none⟩ = some (.slice aa 4 ca) := by rw [(bcell hb11).1 _ _ (by simp <;> omega), old_box (by simp <;> omega), old_box (by simp <;> omega)]; first | (rw [new_at (by simp)]; rfl) | simp
    have c11_1 : v11.cell? ⟨w.heap.size, 1, none⟩ = some (.int .i64 ta) := by rw [(bcell hb11).1 _ _ (by simp <;> omega), old_box (by simp <;> omega), old_box (by simp <;> omega)]; first | (rw [new_at (by simp)]; rfl) | simp
    have c11_2 : v11.cell? ⟨w.heap.size + 1, 0, none⟩ = some (.slice ab 4 cb) := by rw [(bcell hb11).1 _ _ (by simp <;> omega), old_box (by simp <;> omega)]; first | (rw [new_at (by simp)]; rfl) | simp
    have c11_3 : v11.cell? ⟨w.heap.size + 1, 1, none⟩ = some (.int .i64 tb) := by rw [(bcell hb11).1 _ _ (by simp <;> omega), old_box (by simp <;> omega)]; first | (rw [new_at (by simp)]; rfl) | simp
    have c11_4 : v11.cell? ⟨w.heap.size + 1 + 1, 0, none⟩ = some (.slice none 0 0) := by rw [(bcell hb11).1 _ _ (by simp)]; first | (rw [new_at (by simp)]; rfl) | simp
    have c11_5 : v11.cell? ⟨w.heap.size + 1 + 1, 1, none⟩ = some (.int .i64 0) := by rw [(bcell hb11).1 _ _ (by simp)]; first | (rw [new_at (by simp)]; rfl) | simp
    have g11_0 : v11.frozen? ⟨w.heap.size + 1 + 1, 0, none⟩ = false := by rw [(bcell hb11).2 _ _ (by simp), new_frz (by simp)]
    have g11_1 : v11.frozen? ⟨w.heap.size + 1 + 1, 1, none⟩ = false := by rw [(bcell hb11).2 _ _ (by simp), new_frz (by simp)]
    have B11 : Hid (Below w.heap.size w v11) := st11
    have R11_0 : Hid (KRow v11 (la) (ha) (.slice aa 4 ca) 4 DA) := HA.out.below st11 (by omega)
    have R11_1 : Hid (KRow v11 (lb) (hb) (.slice ab 4 cb) 4 DB) := HB.out.below st11 (by omega)
    have d11_0 : w.heap.size < v11.heap.size := by omega
    have e11_0 : w.heap.size ≠ v11.heap.size := by omega
    have d11_1 : w.heap.size + 1 < v11.heap.size := by omega
    have e11_1 : w.heap.size + 1 ≠ v11.heap.size := by omega
    have d11_2 : w.heap.size + 1 + 1 < v11.heap.size := by omega
    have e11_2 : w.heap.size + 1 + 1 ≠ v11.heap.size := by omega
    clear st11 HA HB hb11
    go_wp2_with fail
    go_at_call 33
    refine (iskok_any lb hb 4 _ tb DB _ R11_1.out (by omega) HTB.out).mono ?_
    rw [hsb]
    rintro e v12 ⟨rfl, hb12⟩
    have sz12 : v11.heap.size ≤ v12.heap.size := hb12.size
    have st12 : Below v11.heap.size v11 v12 := hb12
    have c12_0 : v12.cell? ⟨w.heap.size, 0, none⟩ = some (.slice aa 4 ca) := by rw [(bcell st12).1 _ _ (by omega)]; exact c11_0
    have c12_1 : v12.cell? ⟨w.heap.size, 1, none⟩ = some (.int .i64 ta) := by rw [(bcell st12).1 _ _ (by omega)]; exact c11_1
    have c12_2 : v12.cell? ⟨w.heap.size + 1, 0, none⟩ = some (.slice ab 4 cb) := by rw [(bcell st12).1 _ _ (by omega)]; exact c11_2
    have c12_3 : v12.cell? ⟨w.heap.size + 1, 1, none⟩ = some (.int .i64 tb) := by rw [(bcell st12).1 _ _ (by omega)]; exact c11_3
    have c12_4 : v12.cell? ⟨w.heap.size + 1 + 1, 0, none⟩ = some (.slice none 0 0) := by rw [(bcell st12).1 _ _ (by omega)]; exact c11_4
    have c12_5 : v12.cell? ⟨w.heap.size + 1 + 1, 1, none⟩ = some (.int .i64 0) := by rw [(bcell st12).1 _ _ (by omega)]; exact c11_5
    have g12_0 : v12.frozen? ⟨w.heap.size + 1 + 1, 0, none⟩ = false := by rw [(bcell st12).2 _ _ (by omega)]; exact g11_0
    have g12_1 : v12.frozen? ⟨w.heap.size + 1 + 1, 1, none⟩ = false := by rw [(bcell st12).2 _ _ (by omega)]; exact g11_1
    have B12 : Hid (Below w.heap.size w v12) := B11.out.trans (st12.mono (by omega))
    have R12_0 : Hid (KRow v12 (la) (ha) (.slice aa 4 ca) 4 DA) := R11_0.out.below st12 (by omega)
    have R12_1 : Hid (KRow v12 (lb) (hb) (.slice ab 4 cb) 4 DB) := R11_1.out.below st12 (by omega)
    have d12_0 : w.heap.size < v12.heap.size := by omega
    have e12_0 : w.heap.size ≠ v12.heap.size := by omega
    have d12_1 : w.heap.size + 1 < v12.heap.size := by omega
    have e12_1 : w.heap.size + 1 ≠ v12.heap.size := by omega
    have d12_2 : w.heap.size + 1 + 1 < v12.heap.size := by omega
    have e12_2 : w.heap.size + 1 + 1 ≠ v12.heap.size := by omega
    clear d11_0 e11_0 d11_1 e11_1 d11_2 e11_2 c11_0 c11_1 c11_2 c11_3 c11_4 c11_5 g11_0 g11_1 B11 st12 R11_0 R11_1 hb12
    go_wp2_with fail
    go_at_call 53
    refine (iadd2_any v12.heap.size ca cb la ha lb hb aa ab ta tb (cellD DA) (cellD DB) _ (by simp) (by rw [new_at rfl]; rfl) (by rw [new_at rfl]; rfl) (by rw [new_at rfl]; rfl) (by rw [new_at rfl]; rfl) (by rw [← HSA.out.isMat]; exact R12_0.out.below (B := v12.heap.size) (by go_grown) (by omega)) (by rw [← HSB.out.isMat]; exact R12_1.out.below (B := v12.heap.size) (by go_grown) (by omega)) (by simp; omega) (by simp; omega) ⟨hta0, hta1⟩ ⟨htb0, htb1⟩ (fun i j => ⟨(HSA.out.cl i j).1, Int.le_trans (HSA.out.cl i j).2 hta1⟩) (fun i j => ⟨(HSB.out.cl i j).1, Int.le_trans (HSB.out.cl i j).2 htb1⟩)).mono ?_
    rintro e v13 ⟨vS, rfl, hr, hb13⟩
    have sz13 : v12.heap.size + 1 ≤ v13.heap.size := by have hh := hb13.size; simp at hh; omega
    have st13 : Below v12.heap.size v12 v13 := Below.trans (by go_grown) (hb13.mono (by simp))
    have c13_0 : v13.cell? ⟨w.heap.size, 0, none⟩ = some (.slice aa 4 ca) := by rw [(bcell st13).1 _ _ (by omega)]; exact c12_0
    have c13_1 : v13.cell? ⟨w.heap.size, 1, none⟩ = some (.int .i64 ta) := by rw [(bcell st13).1 _ _ (by omega)]; exact c12_1
    have c13_2 : v13.cell? ⟨w.heap.size + 1, 0, none⟩ = some (.slice ab 4 cb) := by rw [(bcell st13).1 _ _ (by omega)]; exact c12_2
    have c13_3 : v13.cell? ⟨w.heap.size + 1, 1, none⟩ = some (.int .i64 tb) := by rw [(bcell st13).1 _ _ (by omega)]; exact c12_3
    have c13_4 : v13.cell? ⟨w.heap.size + 1 + 1, 0, none⟩ = some (.slice none 0 0) := by rw [(bcell st13).1 _ _ (by omega)]; exact c12_4
    have c13_5 : v13.cell? ⟨w.heap.size + 1 + 1, 1, none⟩ = some (.int .i64 0) := by rw [(bcell st13).1 _ _ (by omega)]; exact c12_5
    have c13_6 : v13.cell? ⟨v12.heap.size, 0, none⟩ = some (.slice aa 4 ca) := by rw [(bcell hb13).1 _ _ (by simp)]; first | (rw [new_at (by simp)]; rfl) | simp
    have c13_7 : v13.cell? ⟨v12.heap.size, 1, none⟩ = some (.int .i64 ta) := by rw [(bcell hb13).1 _ _ (by simp)]; first | (rw [new_at (by simp)]; rfl) | simp
    have c13_8 : v13.cell? ⟨v12.heap.size, 2, none⟩ = some (.slice ab 4 cb) := by rw [(bcell hb13).1 _ _ (by simp)]; first | (rw [new_at (by simp)]; rfl) | simp
    have c13_9 : v13.cell? ⟨v12.heap.size, 3, none⟩ = some (.int .i64 tb) := by rw [(bcell hb13).1 _ _ (by simp)]; first | (rw [new_at (by simp)]; rfl) | simp
    have g13_0 : v13.frozen? ⟨w.heap.size + 1 + 1, 0, none⟩ = false := by rw [(bcell st13).2 _ _ (by omega)]; exact g12_0
    have g13_1 : v13.frozen? ⟨w.heap.size + 1 + 1, 1, none⟩ = false := by rw [(bcell st13).2 _ _ (by omega)]; exact g12_1
    have B13 : Hid (Below w.heap.size w v13) := B12.out.trans (st13.mono (by omega))
    have R13_0 : Hid (KRow v13 (la) (ha) (.slice aa 4 ca) 4 DA) := R12_0.out.below st13 (by omega)
    have R13_1 : Hid (KRow v13 (lb) (hb) (.slice ab 4 cb) 4 DB) := R12_1.out.below st13 (by omega)
    have R13_2 : Hid (KRow v13 (v12.heap.size + 1) (v13.heap.size) vS 4 (sumD DA DB)) := hr.wide (by simp) (Nat.le_refl _)
    have d13_0 : w.heap.size < v13.heap.size := by omega
    have e13_0 : w.heap.size ≠ v13.heap.size := by omega
    have d13_1 : w.heap.size + 1 < v13.heap.size := by omega
    have e13_1 : w.heap.size + 1 ≠ v13.heap.size := by omega
    have d13_2 : w.heap.size + 1 + 1 < v13.heap.size := by omega
    have e13_2 : w.heap.size + 1 + 1 ≠ v13.heap.size := by omega
    have d13_3 : v12.heap.size < v13.heap.size := by omega
    have e13_3 : v12.heap.size ≠ v13.heap.size := by omega
    clear d12_0 e12_0 d12_1 e12_1 d12_2 e12_2 c12_0 c12_1 c12_2 c12_3 c12_4 c12_5 g12_0 g12_1 B12 st13 R12_0 R12_1 hb13
    obtain ⟨aS, cS, rfl⟩ := R13_2.out.slice
    go_wp2_with fail
    go_at_call 33
    refine (iskok_any (v12.heap.size + 1) (v13.heap.size) 4 _ (ta + tb) (sumD DA DB) _ (R13_2.out.below (B := v13.heap.size) (by go_grown) (by omega)) (by simp) HTS.out).mono ?_
    rw [hss]
    rintro e v14 ⟨rfl, hb14⟩
    have sz14 : v13.heap.size + 1 ≤ v14.heap.size := by have hh := hb14.size; simp at hh; omega
    have st14 : Below v13.heap.size v13 v14 := Below.trans (by go_grown) (hb14.mono (by simp))
    have c14_0 : v14.cell? ⟨w.heap.size, 0, none⟩ = some (.slice aa 4 ca) := by rw [(bcell st14).1 _ _ (by omega)]; exact c13_0
    have c14_1 : v14.cell? ⟨w.heap.size, 1, none⟩ = some (.int .i64 ta) := by rw [(bcell st14).1 _ _ (by omega)]; exact c13_1
    have c14_2 : v14.cell? ⟨w.heap.size + 1, 0, none⟩ = some (.slice ab 4 cb) := by rw [(bcell st14).1 _ _ (by omega)]; exact c13_2
    have c14_3 : v14.cell? ⟨w.heap.size + 1, 1, none⟩ = some (.int .i64 tb) := by rw [(bcell st14).1 _ _ (by omega)]; exact c13_3
    have c14_4 : v14.cell? ⟨w.heap.size + 1 + 1, 0, none⟩ = some (.slice none 0 0) := by rw [(bcell st14).1 _ _ (by omega)]; exact c13_4
    have c14_5 : v14.cell? ⟨w.heap.size + 1 + 1, 1, none⟩ = some (.int .i64 0) := by rw [(bcell st14).1 _ _ (by omega)]; exact c13_5
    have c14_6 : v14.cell? ⟨v12.heap.size, 0, none⟩ = some (.slice aa 4 ca) := by rw [(bcell st14).1 _ _ (by omega)]; exact c13_6
    have c14_7 : v14.cell? ⟨v12.heap.size, 1, none⟩ = some (.int .i64 ta) := by rw [(bcell st14).1 _ _ (by omega)]; exact c13_7
    have c14_8 : v14.cell? ⟨v12.heap.size, 2, none⟩ = some (.slice ab 4 cb) := by rw [(bcell st14).1 _ _ (by omega)]; exact c13_8
    have c14_9 : v14.cell? ⟨v12.heap.size, 3, none⟩ = some (.int .i64 tb) := by rw [(bcell st14).1 _ _ (by omega)]; exact c13_9
    have c14_10 : v14.cell? ⟨v13.heap.size, 0, none⟩ = some (.slice aS 4 cS) := by rw [(bcell hb14).1 _ _ (by simp)]; first | (rw [new_at (by simp)]; rfl) | simp
    have c14_11 : v14.cell? ⟨v13.heap.size, 1, none⟩ = some (.int .i64 (ta + tb)) := by rw [(bcell hb14).1 _ _ (by simp)]; first | (rw [new_at (by simp)]; rfl) | simp
    have g14_0 : v14.frozen? ⟨w.heap.size + 1 + 1, 0, none⟩ = false := by rw [(bcell st14).2 _ _ (by omega)]; exact g13_0
    have g14_1 : v14.frozen? ⟨w.heap.size + 1 + 1, 1, none⟩ = false := by rw [(bcell st14).2 _ _ (by omega)]; exact g13_1
    have B14 : Hid (Below w.heap.size w v14) := B13.out.trans (st14.mono (by omega))
    have R14_0 : Hid (KRow v14 (la) (ha) (.slice aa 4 ca) 4 DA) := R13_0.out.below st14 (by omega)
    have R14_1 : Hid (KRow v14 (lb) (hb) (.slice ab 4 cb) 4 DB) := R13_1.out.below st14 (by omega)
    have R14_2 : Hid (KRow v14 (v12.heap.size + 1) (v13.heap.size) (.slice aS 4 cS) 4 (sumD DA DB)) := R13_2.out.below st14 (by omega)
    have d14_0 : w.heap.size < v14.heap.size := by omega
    have e14_0 : w.heap.size ≠ v14.heap.size := by omega
    have d14_1 : w.heap.size + 1 < v14.heap.size := by omega
    have e14_1 : w.heap.size + 1 ≠ v14.heap.size := by omega
    have d14_2 : w.heap.size + 1 + 1 < v14.heap.size := by omega
    have e14_2 : w.heap.size + 1 + 1 ≠ v14.heap.size := by omega
    have d14_3 : v12.heap.size < v14.heap.size := by omega
    have e14_3 : v12.heap.size ≠ v14.heap.size := by omega
    have d14_4 : v13.heap.size < v14.heap.size := by omega
    have e14_4 : v13.heap.size ≠ v14.heap.size := by omega
    clear d13_0 e13_0 d13_1 e13_1 d13_2 e13_2 d13_3 e13_3 c13_0 c13_1 c13_2 c13_3 c13_4 c13_5 c13_6 c13_7 c13_8 c13_9 g13_0 g13_1 B13 st14 R13_0 R13_1 R13_2 hb14
    go_wp2_with fail
    go_at_call 55
    refine (icpk_any la ha 4 _ ta DA _ R14_0.out (by omega)).mono ?_
    rintro e v15 ⟨vC, rfl, hr, hb15⟩
    have sz15 : v14.heap.size ≤ v15.heap.size := hb15.size
    have st15 : Below v14.heap.size v14 v15 := hb15
    have c15_0 : v15.cell? ⟨w.heap.size, 0, none⟩ = some (.slice aa 4 ca) := by rw [(bcell st15).1 _ _ (by omega)]; exact c14_0
    have c15_1 : v15.cell? ⟨w.heap.size, 1, none⟩ = some (.int .i64 ta) := by rw [(bcell st15).1 _ _ (by omega)]; exact c14_1
    have c15_2 : v15.cell? ⟨w.heap.size + 1, 0, none⟩ = some (.slice ab 4 cb) := by rw [(bcell st15).1 _ _ (by omega)]; exact c14_2
    have c15_3 : v15.cell? ⟨w.heap.size + 1, 1, none⟩ = some (.int .i64 tb) := by rw [(bcell st15).1 _ _ (by omega)]; exact c14_3
    have c15_4 : v15.cell? ⟨w.heap.size + 1 + 1, 0, none⟩ = some (.slice none 0 0) := by rw [(bcell st15).1 _ _ (by omega)]; exact c14_4
    have c15_5 : v15.cell? ⟨w.heap.size + 1 + 1, 1, none⟩ = some (.int .i64 0) := by rw [(bcell st15).1 _ _ (by omega)]; exact c14_5
    have c15_6 : v15.cell? ⟨v12.heap.size, 0, none⟩ = some (.slice aa 4 ca) := by rw [(bcell st15).1 _ _ (by omega)]; exact c14_6
    have c15_7 : v15.cell? ⟨v12.heap.size, 1, none⟩ = some (.int .i64 ta) := by rw [(bcell st15).1 _ _ (by omega)]; exact c14_7
    have c15_8 : v15.cell? ⟨v12.heap.size, 2, none⟩ = some (.slice ab 4 cb) := by rw [(bcell st15).1 _ _ (by omega)]; exact c14_8
    have c15_9 : v15.cell? ⟨v12.heap.size, 3, none⟩ = some (.int .i64 tb) := by rw [(bcell st15).1 _ _ (by omega)]; exact c14_9
    have c15_10 : v15.cell? ⟨v13.heap.size, 0, none⟩ = some (.slice aS 4 cS) := by rw [(bcell st15).1 _ _ (by omega)]; exact c14_10
    have c15_11 : v15.cell? ⟨v13.heap.size, 1, none⟩ = some (.int .i64 (ta + tb)) := by rw [(bcell st15).1 _ _ (by omega)]; exact c14_11
    have g15_0 : v15.frozen? ⟨w.heap.size + 1 + 1, 0, none⟩ = false := by rw [(bcell st15).2 _ _ (by omega)]; exact g14_0
    have g15_1 : v15.frozen? ⟨w.heap.size + 1 + 1, 1, none⟩ = false := by rw [(bcell st15).2 _ _ (by omega)]; exact g14_1
    have B15 : Hid (Below w.heap.size w v15) := B14.out.trans (st15.mono (by omega))
    have R15_0 : Hid (KRow v15 (la) (ha) (.slice aa 4 ca) 4 DA) := R14_0.out.below st15 (by omega)
    have R15_1 : Hid (KRow v15 (lb) (hb) (.slice ab 4 cb) 4 DB) := R14_1.out.below st15 (by omega)
    have R15_2 : Hid (KRow v15 (v12.heap.size + 1) (v13.heap.size) (.slice aS 4 cS) 4 (sumD DA DB)) := R14_2.out.below st15 (by omega)
    have R15_3 : Hid (KRow v15 (v14.heap.size) (v15.heap.size) vC 4 DA) := hr
    have d15_0 : w.heap.size < v15.heap.size := by omega
    have e15_0 : w.heap.size ≠ v15.heap.size := by omega
    have d15_1 : w.heap.size + 1 < v15.heap.size := by omega
    have e15_1 : w.heap.size + 1 ≠ v15.heap.size := by omega
    have d15_2 : w.heap.size + 1 + 1 < v15.heap.size := by omega
    have e15_2 : w.heap.size + 1 + 1 ≠ v15.heap.size := by omega
    have d15_3 : v12.heap.size < v15.heap.size := by omega
    have e15_3 : v12.heap.size ≠ v15.heap.size := by omega
    have d15_4 : v13.heap.size < v15.heap.size := by omega
    have e15_4 : v13.heap.size ≠ v15.heap.size := by omega
    clear d14_0 e14_0 d14_1 e14_1 d14_2 e14_2 d14_3 e14_3 d14_4 e14_4 c14_0 c14_1 c14_2 c14_3 c14_4 c14_5 c14_6 c14_7 c14_8 c14_9 c14_10 c14_11 g14_0 g14_1 B14 st15 R14_0 R14_1 R14_2 hr hb15
    obtain ⟨aC, cC, rfl⟩ := R15_3.out.slice
    obtain ⟨r0, r1, HRr, HBr⟩ := res2 (R := w.heap.size + 1 + 1) (t := ta) B15.out R15_3.out (by omega) (by omega) (by omega) (by omega) c15_4 c15_5
    clear R15_0 R15_1 R15_2 R15_3
    go_wp2_with fail
    refine bodyPost_ret (v := .tuple #[.agg #[.slice aC 4 cC, .int .i64 ta], .bool false]) (by simp [results, Try.results19, go_sem, r0, r1]) rfl ⟨_, rfl, ?_, HBr.out⟩
    rw [HLA.out]; exact HRr.out
  | true =>
    have hye : mgB ta DA tb DB = true := by unfold mgB; rw [hsa, hsb, hss]; rfl
    rw [hye, (mg_yes hye).1, (mg_yes hye).2]
    clear hye
    go_enter Try.func19, Try.ntmps19
    go_wp2_with fail
    go_at_call 33
    refine (iskok_any la ha 4 _ ta DA _ (HA.out.below (B := w.heap.size) (by go_grown) (by omega)) (by simp; omega) HTA.out).mono ?_
    rw [hsa]
    rintro e v11 ⟨rfl, hb11⟩
    have sz11 : w.heap.size + 3 ≤ v11.heap.size := by have hh := hb11.size; simp at hh; omega
    have st11 : Below w.heap.size w v11 := Below.trans (by go_grown) (hb11.mono (by simp <;> omega))
    have c11_0 : v11.cell? ⟨w.heap.size, 0, none⟩ = some (.slice aa 4 ca) := by rw [(bcell hb11).1 _ _ (by simp <;> omega), old_box (by simp <;> omega), old_box (by simp <;> omega)]; first | (rw [new_at (by simp)]; rfl) | simp
    have c11_1 : v11.cell? ⟨w.heap.size, 1, none⟩ = some (.int .i64 ta) := by rw [(bcell hb11).1 _ _ (by simp <;> omega), old_box (by simp <;> omega), old_box (by simp <;> omega)]; first | (rw [new_at (by simp)]; rfl) | simp
    have c11_2 : v11.cell? ⟨w.heap.size + 1, 0, none⟩ = some (.slice ab 4 cb) := by rw [(bcell hb11).1 _ _ (by simp <;> omega), old_box (by simp <;> omega)]; first | (rw [new_at (by simp)]; rfl) | simp
    have c11_3 : v11.cell? ⟨w.heap.size + 1, 1, none⟩ = some (.int .i64 tb) := by rw [(bcell hb11).1 _ _ (by simp <;> omega), old_box (by simp <;> omega)]; first | (rw [new_at (by simp)]; rfl) | simp
    have c11_4 : v11.cell? ⟨w.heap.size + 1 + 1, 0, none⟩ = some (.slice none 0 0) := by rw [(bcell hb11).1 _ _ (by simp)]; first | (rw [new_at (by simp)]; rfl) | simp
    have c11_5 : v11.cell? ⟨w.heap.size + 1 + 1, 1, none⟩ = some (.int .i64 0) := by rw [(bcell hb11).1 _ _ (by simp)]; first | (rw [new_at (by simp)]; rfl) | simp
    have g11_0 : v11.frozen? ⟨w.heap.size + 1 + 1, 0, none⟩ = false := by rw [(bcell hb11).2 _ _ (by simp), new_frz (by simp)]
    have g11_1 : v11.frozen? ⟨w.heap.size + 1 + 1, 1, none⟩ = false := by rw [(bcell hb11).2 _ _ (by simp), new_frz (by simp)]
    have B11 : Hid (Below w.heap.size w v11) := st11
    have R11_0 : Hid (KRow v11 (la) (ha) (.slice aa 4 ca) 4 DA) := HA.out.below st11 (by omega)
    have R11_1 : Hid (KRow v11 (lb) (hb) (.slice ab 4 cb) 4 DB) := HB.out.below st11 (by omega)
    have d11_0 : w.heap.size < v11.heap.size := by omega
    have e11_0 : w.heap.size ≠ v11.heap.size := by omega
    have d11_1 : w.heap.size + 1 < v11.heap.size := by omega
    have e11_1 : w.heap.size + 1 ≠ v11.heap.size := by omega
    have d11_2 : w.heap.size + 1 + 1 < v11.heap.size := by omega
    have e11_2 : w.heap.size + 1 + 1 ≠ v11.heap.size := by omega
    clear st11 HA HB hb11
    go_wp2_with fail
    go_at_call 33
    refine (iskok_any lb hb 4 _ tb DB _ R11_1.out (by omega) HTB.out).mono ?_
    rw [hsb]
    rintro e v12 ⟨rfl, hb12⟩
    have sz12 : v11.heap.size ≤ v12.heap.size := hb12.size
    have st12 : Below v11.heap.size v11 v12 := hb12
    have c12_0 : v12.cell? ⟨w.heap.size, 0, none⟩ = some (.slice aa 4 ca) := by rw [(bcell st12).1 _ _ (by omega)]; exact c11_0
    have c12_1 : v12.cell? ⟨w.heap.size, 1, none⟩ = some (.int .i64 ta) := by rw [(bcell st12).1 _ _ (by omega)]; exact c11_1
    have c12_2 : v12.cell? ⟨w.heap.size + 1, 0, none⟩ = some (.slice ab 4 cb) := by rw [(bcell st12).1 _ _ (by omega)]; exact c11_2
    have c12_3 : v12.cell? ⟨w.heap.size + 1, 1, none⟩ = some (.int .i64 tb) := by rw [(bcell st12).1 _ _ (by omega)]; exact c11_3
    have c12_4 : v12.cell? ⟨w.heap.size + 1 + 1, 0, none⟩ = some (.slice none 0 0) := by rw [(bcell st12).1 _ _ (by omega)]; exact c11_4
    have c12_5 : v12.cell? ⟨w.heap.size + 1 + 1, 1, none⟩ = some (.int .i64 0) := by rw [(bcell st12).1 _ _ (by omega)]; exact c11_5
    have g12_0 : v12.frozen? ⟨w.heap.size + 1 + 1, 0, none⟩ = false := by rw [(bcell st12).2 _ _ (by omega)]; exact g11_0
    have g12_1 : v12.frozen? ⟨w.heap.size + 1 + 1, 1, none⟩ = false := by rw [(bcell st12).2 _ _ (by omega)]; exact g11_1
    have B12 : Hid (Below w.heap.size w v12) := B11.out.trans (st12.mono (by omega))
    have R12_0 : Hid (KRow v12 (la) (ha) (.slice aa 4 ca) 4 DA) := R11_0.out.below st12 (by omega)
    have R12_1 : Hid (KRow v12 (lb) (hb) (.slice ab 4 cb) 4 DB) := R11_1.out.below st12 (by omega)
    have d12_0 : w.heap.size < v12.heap.size := by omega
    have e12_0 : w.heap.size ≠ v12.heap.size := by omega
    have d12_1 : w.heap.size + 1 < v12.heap.size := by omega
    have e12_1 : w.heap.size + 1 ≠ v12.heap.size := by omega
    have d12_2 : w.heap.size + 1 + 1 < v12.heap.size := by omega
    have e12_2 : w.heap.size + 1 + 1 ≠ v12.heap.size := by omega
    clear d11_0 e11_0 d11_1 e11_1 d11_2 e11_2 c11_0 c11_1 c11_2 c11_3 c11_4 c11_5 g11_0 g11_1 B11 st12 R11_0 R11_1 hb12
    go_wp2_with fail
    go_at_call 53
    refine (iadd2_any v12.heap.size ca cb la ha lb hb aa ab ta tb (cellD DA) (cellD DB) _ (by simp) (by rw [new_at rfl]; rfl) (by rw [new_at rfl]; rfl) (by rw [new_at rfl]; rfl) (by rw [new_at rfl]; rfl) (by rw [← HSA.out.isMat]; exact R12_0.out.below (B := v12.heap.size) (by go_grown) (by omega)) (by rw [← HSB.out.isMat]; exact R12_1.out.below (B := v12.heap.size) (by go_grown) (by omega)) (by simp; omega) (by simp; omega) ⟨hta0, hta1⟩ ⟨htb0, htb1⟩ (fun i j => ⟨(HSA.out.cl i j).1, Int.le_trans (HSA.out.cl i j).2 hta1⟩) (fun i j => ⟨(HSB.out.cl i j).1, Int.le_trans (HSB.out.cl i j).2 htb1⟩)).mono ?_
    rintro e v13 ⟨vS, rfl, hr, hb13⟩
    have sz13 : v12.heap.size + 1 ≤ v13.heap.size := by have hh := hb13.size; simp at hh; omega
    have st13 : Below v12.heap.size v12 v13 := Below.trans (by go_grown) (hb13.mono (by simp))
    have c13_0 : v13.cell? ⟨w.heap.size, 0, none⟩ = some (.slice aa 4 ca) := by rw [(bcell st13).1 _ _ (by omega)]; exact c12_0
    have c13_1 : v13.cell? ⟨w.heap.size, 1, none⟩ = some (.int .i64 ta) := by rw [(bcell st13).1 _ _ (by omega)]; exact c12_1
    have c13_2 : v13.cell? ⟨w.heap.size + 1, 0, none⟩ = some (.slice ab 4 cb) := by rw [(bcell st13).1 _ _ (by omega)]; exact c12_2
    have c13_3 : v13.cell? ⟨w.heap.size + 1, 1, none⟩ = some (.int .i64 tb) := by rw [(bcell st13).1 _ _ (by omega)]; exact c12_3
    have c13_4 : v13.cell? ⟨w.heap.size + 1 + 1, 0, none⟩ = some (.slice none 0 0) := by rw [(bcell st13).1 _ _ (by omega)]; exact c12_4
    have c13_5 : v13.cell? ⟨w.heap.size + 1 + 1, 1, none⟩ = some (.int .i64 0) := by rw [(bcell st13).1 _ _ (by omega)]; exact c12_5
    have c13_6 : v13.cell? ⟨v12.heap.size, 0, none⟩ = some (.slice aa 4 ca) := by rw [(bcell hb13).1 _ _ (by simp)]; first | (rw [new_at (by simp)]; rfl) | simp
    have c13_7 : v13.cell? ⟨v12.heap.size, 1, none⟩ = some (.int .i64 ta) := by rw [(bcell hb13).1 _ _ (by simp)]; first | (rw [new_at (by simp)]; rfl) | simp
    have c13_8 : v13.cell? ⟨v12.heap.size, 2, none⟩ = some (.slice ab 4 cb) := by rw [(bcell hb13).1 _ _ (by simp)]; first | (rw [new_at (by simp)]; rfl) | simp
    have c13_9 : v13.cell? ⟨v12.heap.size, 3, none⟩ = some (.int .i64 tb) := by rw [(bcell hb13).1 _ _ (by simp)]; first | (rw [new_at (by simp)]; rfl) | simp
    have g13_0 : v13.frozen? ⟨w.heap.size + 1 + 1, 0, none⟩ = false := by rw [(bcell st13).2 _ _ (by omega)]; exact g12_0
    have g13_1 : v13.frozen? ⟨w.heap.size + 1 + 1, 1, none⟩ = false := by rw [(bcell st13).2 _ _ (by omega)]; exact g12_1
    have B13 : Hid (Below w.heap.size w v13) := B12.out.trans (st13.mono (by omega))
    have R13_0 : Hid (KRow v13 (la) (ha) (.slice aa 4 ca) 4 DA) := R12_0.out.below st13 (by omega)
    have R13_1 : Hid (KRow v13 (lb) (hb) (.slice ab 4 cb) 4 DB) := R12_1.out.below st13 (by omega)
    have R13_2 : Hid (KRow v13 (v12.heap.size + 1) (v13.heap.size) vS 4 (sumD DA DB)) := hr.wide (by simp) (Nat.le_refl _)
    have d13_0 : w.heap.size < v13.heap.size := by omega
    have e13_0 : w.heap.size ≠ v13.heap.size := by omega
    have d13_1 : w.heap.size + 1 < v13.heap.size := by omega
    have e13_1 : w.heap.size + 1 ≠ v13.heap.size := by omega
    have d13_2 : w.heap.size + 1 + 1 < v13.heap.size := by omega
    have e13_2 : w.heap.size + 1 + 1 ≠ v13.heap.size := by omega
    have d13_3 : v12.heap.size < v13.heap.size := by omega
    have e13_3 : v12.heap.size ≠ v13.heap.size := by omega
    clear d12_0 e12_0 d12_1 e12_1 d12_2 e12_2 c12_0 c12_1 c12_2 c12_3 c12_4 c12_5 g12_0 g12_1 B12 st13 R12_0 R12_1 hb13
    obtain ⟨aS, cS, rfl⟩ := R13_2.out.slice
    go_wp2_with fail
    go_at_call 33
    refine (iskok_any (v12.heap.size + 1) (v13.heap.size) 4 _ (ta + tb) (sumD DA DB) _ (R13_2.out.below (B := v13.heap.size) (by go_grown) (by omega)) (by simp) HTS.out).mono ?_
    rw [hss]
    rintro e v14 ⟨rfl, hb14⟩
    have sz14 : v13.heap.size + 1 ≤ v14.heap.size := by have hh := hb14.size; simp at hh; omega
    have st14 : Below v13.heap.size v13 v14 := Below.trans (by go_grown) (hb14.mono (by simp))
    have c14_0 : v14.cell? ⟨w.heap.size, 0, none⟩ = some (.slice aa 4 ca) := by rw [(bcell st14).1 _ _ (by omega)]; exact c13_0
    have c14_1 : v14.cell? ⟨w.heap.size, 1, none⟩ = some (.int .i64 ta) := by rw [(bcell st14).1 _ _ (by omega)]; exact c13_1
    have c14_2 : v14.cell? ⟨w.heap.size + 1, 0, none⟩ = some (.slice ab 4 cb) := by rw [(bcell st14).1 _ _ (by omega)]; exact c13_2
    have c14_3 : v14.cell? ⟨w.heap.size + 1, 1, none⟩ = some (.int .i64 tb) := by rw [(bcell st14).1 _ _ (by omega)]; exact c13_3
    have c14_4 : v14.cell? ⟨w.heap.size + 1 + 1, 0, none⟩ = some (.slice none 0 0) := by rw [(bcell st14).1 _ _ (by omega)]; exact c13_4
    have c14_5 : v14.cell? ⟨w.heap.size + 1 + 1, 1, none⟩ = some (.int .i64 0) := by rw [(bcell st14).1 _ _ (by omega)]; exact c13_5
    have c14_6 : v14.cell? ⟨v12.heap.size, 0, none⟩ = some (.slice aa 4 ca) := by rw [(bcell st14).1 _ _ (by omega)]; exact c13_6
    have c14_7 : v14.cell? ⟨v12.heap.size, 1, none⟩ = some (.int .i64 ta) := by rw [(bcell st14).1 _ _ (by omega)]; exact c13_7
    have c14_8 : v14.cell? ⟨v12.heap.size, 2, none⟩ = some (.slice ab 4 cb) := by rw [(bcell st14).1 _ _ (by omega)]; exact c13_8
    have c14_9 : v14.cell? ⟨v12.heap.size, 3, none⟩ = some (.int .i64 tb) := by rw [(bcell st14).1 _ _ (by omega)]; exact c13_9
    have c14_10 : v14.cell? ⟨v13.heap.size, 0, none⟩ = some (.slice aS 4 cS) := by rw [(bcell hb14).1 _ _ (by simp)]; first | (rw [new_at (by simp)]; rfl) | simp
    have c14_11 : v14.cell? ⟨v13.heap.size, 1, none⟩ = some (.int .i64 (ta + tb)) := by rw [(bcell hb14).1 _ _ (by simp)]; first | (rw [new_at (by simp)]; rfl) | simp
    have g14_0 : v14.frozen? ⟨w.heap.size + 1 + 1, 0, none⟩ = false := by rw [(bcell st14).2 _ _ (by omega)]; exact g13_0
    have g14_1 : v14.frozen? ⟨w.heap.size + 1 + 1, 1, none⟩ = false := by rw [(bcell st14).2 _ _ (by omega)]; exact g13_1
    have B14 : Hid (Below w.heap.size w v14) := B13.out.trans (st14.mono (by omega))
    have R14_0 : Hid (KRow v14 (la) (ha) (.slice aa 4 ca) 4 DA) := R13_0.out.below st14 (by omega)
    have R14_1 : Hid (KRow v14 (lb) (hb) (.slice ab 4 cb) 4 DB) := R13_1.out.below st14 (by omega)
    have R14_2 : Hid (KRow v14 (v12.heap.size + 1) (v13.heap.size) (.slice aS 4 cS) 4 (sumD DA DB)) := R13_2.out.below st14 (by omega)
    have d14_0 : w.heap.size < v14.heap.size := by omega
    have e14_0 : w.heap.size ≠ v14.heap.size := by omega
    have d14_1 : w.heap.size + 1 < v14.heap.size := by omega
    have e14_1 : w.heap.size + 1 ≠ v14.heap.size := by omega
    have d14_2 : w.heap.size + 1 + 1 < v14.heap.size := by omega
    have e14_2 : w.heap.size + 1 + 1 ≠ v14.heap.size := by omega
    have d14_3 : v12.heap.size < v14.heap.size := by omega
    have e14_3 : v12.heap.size ≠ v14.heap.size := by omega
    have d14_4 : v13.heap.size < v14.heap.size := by omega
    have e14_4 : v13.heap.size ≠ v14.heap.size := by omega
    clear d13_0 e13_0 d13_1 e13_1 d13_2 e13_2 d13_3 e13_3 c13_0 c13_1 c13_2 c13_3 c13_4 c13_5 c13_6 c13_7 c13_8 c13_9 g13_0 g13_1 B13 st14 R13_0 R13_1 R13_2 hb14
    obtain ⟨r0, r1, HRr, HBr⟩ := res2 (R := w.heap.size + 1 + 1) (t := (ta + tb)) B14.out R14_2.out (by omega) (by omega) (by omega) (by omega) c14_4 c14_5
    clear R14_0 R14_1 R14_2
    go_wp2_with fail
    refine bodyPost_ret (v := .tuple #[.agg #[.slice aS 4 cS, .int .i64 (ta + tb)], .bool true]) (by simp [results, Try.results19, go_sem, r0, r1]) rfl ⟨_, rfl, ?_, HBr.out⟩
    rw [sumD_len]; exact HRr.out

end Go.Proofs.Ytophppnllkadoaa
