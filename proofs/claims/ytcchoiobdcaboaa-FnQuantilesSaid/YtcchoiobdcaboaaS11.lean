/- One more value, by the program. -/
import Derived.Test.YtcchoiobdcaboaaS10
import Derived.Test.YtcchoiobdcaboaaS9
namespace Go.Proofs.Ytcchoiobdcaboaa
open Go.RowKit


/-- A histogram with one more value. -/
def adB (C : List Int) (t x : Int) : Bool := hkB C t && (vB x && hkB (inc C (bl x)) (t + x))
def adC (C : List Int) (t x : Int) : List Int := if adB C t x then inc C (bl x) else C
def adS (C : List Int) (t x : Int) : Int := if adB C t x then t + x else t
theorem ad_no {C : List Int} {t x : Int} (h : adB C t x = false) : adC C t x = C ∧ adS C t x = t := by unfold adC adS; rw [h]; exact ⟨rfl, rfl⟩
theorem ad_yes {C : List Int} {t x : Int} (h : adB C t x = true) : adC C t x = inc C (bl x) ∧ adS C t x = t + x := by unfold adC adS; rw [h]; exact ⟨rfl, rfl⟩
theorem adC_len (C : List Int) (t x : Int) : (adC C t x).length = C.length := by unfold adC; split <;> simp [inc_len]
theorem ad_cm {C : List Int} {t x : Int} (hv : vB x = true) : cmB C t (inc H0 (bl x)) x 1 = adB C t x ∧ cmC C t (inc H0 (bl x)) x 1 = adC C t x ∧ cmS C t (inc H0 (bl x)) x 1 = adS C t x := by
  obtain ⟨h0, h1⟩ := vB_iff.1 hv
  have hb := (bl_in h0 h1).1
  have hs : hkB (inc H0 (bl x)) x = true := by
    have := inc_ok (C := H0) (s := 0) (v := x) H0_ok hv (by rw [H0_at]; omega)
    rwa [Int.zero_add] at this
  have e : cmB C t (inc H0 (bl x)) x 1 = adB C t x := by
    unfold cmB adB
    cases hk : hkB C t with
    | false => rfl
    | true =>
      have hl := (hkB_iff.1 hk).1
      rw [hs, hv, comb_one _ _ hl hb, Int.one_mul]
  refine ⟨e, ?_, ?_⟩
  · unfold cmC adC
    rw [e]
    cases ha : adB C t x with
    | false => rfl
    | true =>
      have hk : hkB C t = true := by unfold adB at ha; rw [Bool.and_eq_true] at ha; exact ha.1
      rw [if_pos rfl, if_pos rfl, comb_one _ _ (hkB_iff.1 hk).1 hb]
  · unfold cmS adS
    rw [e, Int.one_mul]
theorem ho_one (x : Int) : hoB [x] = vB x ∧ (vB x = true → hoC [x] = inc H0 (bl x) ∧ hoS [x] = x) := by
  have e : hoB [x] = vB x := by unfold hoB hV; simp
  refine ⟨e, fun h => ?_⟩
  have := ho_yes (L := [x]) (e.trans h)
  rw [this.1, this.2]
  exact ⟨rfl, by show (0 : Int) + x = x; omega⟩

theorem one_cell {w : World} {b : Nat} {x : Int} (h : w.cell? ⟨b, 0, none⟩ = some (.int .i64 x)) {q : Nat} {z : Int} (hz : [x][q]? = some z) : w.cell? ⟨b, q, none⟩ = some (.int .i64 z) := by
  have hq := lt_of_at hz
  obtain rfl : q = 0 := by simpa using hq
  obtain rfl : x = z := by simpa using hz
  exact h
set_option maxRecDepth 100000 in
set_option maxHeartbeats 8000000 in
theorem iadd_any0 (lo hi n : Nat) (v : Value) (t : Int) (C : List Int) (w : World) (hr : Row 1 w lo hi v n C) (hh : hi ≤ w.heap.size) (ht : I64 t) (x : Int) :
    Calls Try.prog 35 #[.agg #[v, .int .i64 t], .int .i64 x] w (HBPost (adC C t x) (adS C t x) (adB C t x) (adC C t x).length w) := by
  have HR1 := Lib.hid hr
  have hl : C.length = n := by have := hr.1; omega
  have HL := Lib.hid hl
  obtain ⟨ad, cp, rfl⟩ := hr.slice
  clear hr hl
  cases hv : vB x with
  | false =>
    have E : Hid (adB C t x = false) := by show _ = _; unfold adB; rw [hv, Bool.false_and, Bool.and_false]
    have HO1 : Hid (hoB [x] = false) := (ho_one x).1.trans hv
    clear hv
    go_enter Try.func35, Try.ntmps35
    go_wp2_with fail
    have HFL : Hid (∀ o, ((((w.alloc (.cells #[.slice ad n cp, .int .i64 t] 27)).alloc (.cells #[.slice none 0 0, .int .i64 0] 27)).alloc (.cells #[.int .i64 x] 3))).frozen? ⟨w.heap.size + 1 + 1, o, none⟩ = false) := fun o => new_frz (by simp)
    obtain ⟨q1, hq1⟩ : ∃ q, q = (((w.alloc (.cells #[.slice ad n cp, .int .i64 t] 27)).alloc (.cells #[.slice none 0 0, .int .i64 0] 27)).alloc (.cells #[.int .i64 x] 3)) := ⟨_, rfl⟩
    have hb1 : Below w.heap.size w q1 := by rw [hq1]; go_grown
    have sz1 : w.heap.size + 3 ≤ q1.heap.size := by rw [hq1]; simp
    have c1_0 : q1.cell? ⟨w.heap.size, 0, none⟩ = some (.slice ad n cp) := by rw [hq1, old_box (by simp <;> omega), old_box (by simp <;> omega), new_at (by simp)]; rfl
    have c1_1 : q1.cell? ⟨w.heap.size, 1, none⟩ = some (.int .i64 t) := by rw [hq1, old_box (by simp <;> omega), old_box (by simp <;> omega), new_at (by simp)]; rfl
    have c1_2 : q1.cell? ⟨w.heap.size + 1, 0, none⟩ = some (.slice none 0 0) := by rw [hq1, old_box (by simp <;> omega), new_at (by simp)]; rfl
    have c1_3 : q1.cell? ⟨w.heap.size + 1, 1, none⟩ = some (.int .i64 0) := by rw [hq1, old_box (by simp <;> omega), new_at (by simp)]; rfl
    have c1_4 : q1.cell? ⟨w.heap.size + 1 + 1, 0, none⟩ = some (.int .i64 x) := by rw [hq1, new_at (by simp)]; rfl
    have g1_0 : q1.frozen? ⟨w.heap.size + 1, 0, none⟩ = false := by rw [hq1, old_frz (by simp <;> omega), new_frz (by simp)]
    have g1_1 : q1.frozen? ⟨w.heap.size + 1, 1, none⟩ = false := by rw [hq1, old_frz (by simp <;> omega), new_frz (by simp)]
    have g1_2 : q1.frozen? ⟨w.heap.size + 1 + 1, 0, none⟩ = false := by rw [hq1, new_frz (by simp)]
    have B1 : Hid (Below w.heap.size w q1) := Lib.hid hb1
    rw [← hq1] at HFL ⊢
    have d1_0 : w.heap.size < q1.heap.size := by omega
    have e1_0 : w.heap.size ≠ q1.heap.size := by omega
    have d1_1 : w.heap.size + 1 < q1.heap.size := by omega
    have e1_1 : w.heap.size + 1 ≠ q1.heap.size := by omega
    have d1_2 : w.heap.size + 1 + 1 < q1.heap.size := by omega
    have e1_2 : w.heap.size + 1 + 1 ≠ q1.heap.size := by omega
    clear hq1 hb1
    have HRL : Hid (Row 1 q1 (w.heap.size + 1 + 1) (w.heap.size + 1 + 1 + 1) (.slice (some ⟨w.heap.size + 1 + 1, 0, none⟩) 1 1) 1 [x]) := (⟨rfl, .inr ⟨_, 1, rfl, Nat.le_refl _, Nat.lt_succ_self _, by omega, fun q z hz => one_cell c1_4 hz, HFL.out⟩⟩ : Row 1 q1 (w.heap.size + 1 + 1) (w.heap.size + 1 + 1 + 1) (.slice (some ⟨w.heap.size + 1 + 1, 0, none⟩) 1 1) 1 [x])
    go_wp2_with fail
    go_at_call 16
    refine (iho_any (w.heap.size + 1 + 1) (w.heap.size + 1 + 1 + 1) 1 _ [x] _ HRL.out (by omega)).mono ?_
    rw [HO1.out, (ho_no HO1.out).1, (ho_no HO1.out).2, List.length_nil]
    rintro e v2 ⟨rs, rfl, hr, hb2⟩
    have sz2 : q1.heap.size ≤ v2.heap.size := hb2.size
    have st2 : Below q1.heap.size q1 v2 := hb2
    have c2_0 : v2.cell? ⟨w.heap.size, 0, none⟩ = some (.slice ad n cp) := by rw [(bcell st2).1 _ _ (by omega)]; exact c1_0
    have c2_1 : v2.cell? ⟨w.heap.size, 1, none⟩ = some (.int .i64 t) := by rw [(bcell st2).1 _ _ (by omega)]; exact c1_1
    have c2_2 : v2.cell? ⟨w.heap.size + 1, 0, none⟩ = some (.slice none 0 0) := by rw [(bcell st2).1 _ _ (by omega)]; exact c1_2
    have c2_3 : v2.cell? ⟨w.heap.size + 1, 1, none⟩ = some (.int .i64 0) := by rw [(bcell st2).1 _ _ (by omega)]; exact c1_3
    have c2_4 : v2.cell? ⟨w.heap.size + 1 + 1, 0, none⟩ = some (.int .i64 x) := by rw [(bcell st2).1 _ _ (by omega)]; exact c1_4
    have g2_0 : v2.frozen? ⟨w.heap.size + 1, 0, none⟩ = false := by rw [(bcell st2).2 _ _ (by omega)]; exact g1_0
    have g2_1 : v2.frozen? ⟨w.heap.size + 1, 1, none⟩ = false := by rw [(bcell st2).2 _ _ (by omega)]; exact g1_1
    have g2_2 : v2.frozen? ⟨w.heap.size + 1 + 1, 0, none⟩ = false := by rw [(bcell st2).2 _ _ (by omega)]; exact g1_2
    have B2 : Hid (Below w.heap.size w v2) := B1.out.trans (st2.mono (by omega))
    have R2_0 : Hid (Row 1 v2 (q1.heap.size) (v2.heap.size) rs 0 []) := hr
    have d2_0 : w.heap.size < v2.heap.size := by omega
    have e2_0 : w.heap.size ≠ v2.heap.size := by omega
    have d2_1 : w.heap.size + 1 < v2.heap.size := by omega
    have e2_1 : w.heap.size + 1 ≠ v2.heap.size := by omega
    have d2_2 : w.heap.size + 1 + 1 < v2.heap.size := by omega
    have e2_2 : w.heap.size + 1 + 1 ≠ v2.heap.size := by omega
    clear d1_0 e1_0 d1_1 e1_1 d1_2 e1_2 c1_0 c1_1 c1_2 c1_3 c1_4 g1_0 g1_1 g1_2 B1 st2 hr hb2
    obtain ⟨sa, sc, rfl⟩ := R2_0.out.slice
    go_upto_region 2 with fail
    obtain ⟨q3, hq3⟩ : ∃ q, q = (v2.alloc (.cells #[.slice sa 0 sc, .int .i64 0] 27)) := ⟨_, rfl⟩
    have hb3 : Below v2.heap.size v2 q3 := by rw [hq3]; go_grown
    have sz3 : v2.heap.size + 1 ≤ q3.heap.size := by rw [hq3]; simp
    have c3_0 : q3.cell? ⟨w.heap.size, 0, none⟩ = some (.slice ad n cp) := by rw [(bcell hb3).1 _ _ (by omega)]; exact c2_0
    have c3_1 : q3.cell? ⟨w.heap.size, 1, none⟩ = some (.int .i64 t) := by rw [(bcell hb3).1 _ _ (by omega)]; exact c2_1
    have c3_2 : q3.cell? ⟨w.heap.size + 1, 0, none⟩ = some (.slice none 0 0) := by rw [(bcell hb3).1 _ _ (by omega)]; exact c2_2
    have c3_3 : q3.cell? ⟨w.heap.size + 1, 1, none⟩ = some (.int .i64 0) := by rw [(bcell hb3).1 _ _ (by omega)]; exact c2_3
    have c3_4 : q3.cell? ⟨w.heap.size + 1 + 1, 0, none⟩ = some (.int .i64 x) := by rw [(bcell hb3).1 _ _ (by omega)]; exact c2_4
    have c3_5 : q3.cell? ⟨v2.heap.size, 0, none⟩ = some (.slice sa 0 sc) := by rw [hq3, new_at (by simp)]; rfl
    have c3_6 : q3.cell? ⟨v2.heap.size, 1, none⟩ = some (.int .i64 0) := by rw [hq3, new_at (by simp)]; rfl
    have g3_0 : q3.frozen? ⟨w.heap.size + 1, 0, none⟩ = false := by rw [(bcell hb3).2 _ _ (by omega)]; exact g2_0
    have g3_1 : q3.frozen? ⟨w.heap.size + 1, 1, none⟩ = false := by rw [(bcell hb3).2 _ _ (by omega)]; exact g2_1
    have g3_2 : q3.frozen? ⟨w.heap.size + 1 + 1, 0, none⟩ = false := by rw [(bcell hb3).2 _ _ (by omega)]; exact g2_2
    have B3 : Hid (Below w.heap.size w q3) := Lib.hid (B2.out.trans (hb3.mono (by omega)))
    have R3_0 : Hid (Row 1 q3 (q1.heap.size) (v2.heap.size) (.slice sa 0 sc) 0 []) := Lib.hid (R2_0.out.below hb3 (by omega))
    rw [← hq3]
    have d3_0 : w.heap.size < q3.heap.size := by omega
    have e3_0 : w.heap.size ≠ q3.heap.size := by omega
    have d3_1 : w.heap.size + 1 < q3.heap.size := by omega
    have e3_1 : w.heap.size + 1 ≠ q3.heap.size := by omega
    have d3_2 : w.heap.size + 1 + 1 < q3.heap.size := by omega
    have e3_2 : w.heap.size + 1 + 1 ≠ q3.heap.size := by omega
    have d3_3 : v2.heap.size < q3.heap.size := by omega
    have e3_3 : v2.heap.size ≠ q3.heap.size := by omega
    clear hq3 hb3 d2_0 e2_0 d2_1 e2_1 d2_2 e2_2 c2_0 c2_1 c2_2 c2_3 c2_4 g2_0 g2_1 g2_2 B2 R2_0
    go_wp2_with fail
    go_at_call 57
    refine (icph_any lo hi n _ t C _ (HR1.out.below B3.out hh) (by have := B3.out.size; omega)).mono ?_
    rintro e v4 ⟨rv, rfl, hr, hb4⟩
    have sz4 : q3.heap.size ≤ v4.heap.size := hb4.size
    have st4 : Below q3.heap.size q3 v4 := hb4
    have c4_0 : v4.cell? ⟨w.heap.size, 0, none⟩ = some (.slice ad n cp) := by rw [(bcell st4).1 _ _ (by omega)]; exact c3_0
    have c4_1 : v4.cell? ⟨w.heap.size, 1, none⟩ = some (.int .i64 t) := by rw [(bcell st4).1 _ _ (by omega)]; exact c3_1
    have c4_2 : v4.cell? ⟨w.heap.size + 1, 0, none⟩ = some (.slice none 0 0) := by rw [(bcell st4).1 _ _ (by omega)]; exact c3_2
    have c4_3 : v4.cell? ⟨w.heap.size + 1, 1, none⟩ = some (.int .i64 0) := by rw [(bcell st4).1 _ _ (by omega)]; exact c3_3
    have c4_4 : v4.cell? ⟨w.heap.size + 1 + 1, 0, none⟩ = some (.int .i64 x) := by rw [(bcell st4).1 _ _ (by omega)]; exact c3_4
    have c4_5 : v4.cell? ⟨v2.heap.size, 0, none⟩ = some (.slice sa 0 sc) := by rw [(bcell st4).1 _ _ (by omega)]; exact c3_5
    have c4_6 : v4.cell? ⟨v2.heap.size, 1, none⟩ = some (.int .i64 0) := by rw [(bcell st4).1 _ _ (by omega)]; exact c3_6
    have g4_0 : v4.frozen? ⟨w.heap.size + 1, 0, none⟩ = false := by rw [(bcell st4).2 _ _ (by omega)]; exact g3_0
    have g4_1 : v4.frozen? ⟨w.heap.size + 1, 1, none⟩ = false := by rw [(bcell st4).2 _ _ (by omega)]; exact g3_1
    have g4_2 : v4.frozen? ⟨w.heap.size + 1 + 1, 0, none⟩ = false := by rw [(bcell st4).2 _ _ (by omega)]; exact g3_2
    have B4 : Hid (Below w.heap.size w v4) := B3.out.trans (st4.mono (by omega))
    have R4_0 : Hid (Row 1 v4 (q1.heap.size) (v2.heap.size) (.slice sa 0 sc) 0 []) := R3_0.out.below st4 (by omega)
    have R4_1 : Hid (Row 1 v4 (q3.heap.size) (v4.heap.size) rv n C) := hr
    have d4_0 : w.heap.size < v4.heap.size := by omega
    have e4_0 : w.heap.size ≠ v4.heap.size := by omega
    have d4_1 : w.heap.size + 1 < v4.heap.size := by omega
    have e4_1 : w.heap.size + 1 ≠ v4.heap.size := by omega
    have d4_2 : w.heap.size + 1 + 1 < v4.heap.size := by omega
    have e4_2 : w.heap.size + 1 + 1 ≠ v4.heap.size := by omega
    have d4_3 : v2.heap.size < v4.heap.size := by omega
    have e4_3 : v2.heap.size ≠ v4.heap.size := by omega
    clear d3_0 e3_0 d3_1 e3_1 d3_2 e3_2 d3_3 e3_3 c3_0 c3_1 c3_2 c3_3 c3_4 c3_5 c3_6 g3_0 g3_1 g3_2 B3 st4 R3_0 hr hb4
    obtain ⟨ra, rc, rfl⟩ := R4_1.out.slice
    have r0 : ((v4.setCell ⟨w.heap.size + 1, 0, none⟩ (.slice ra n rc)).setCell ⟨w.heap.size + 1, 1, none⟩ (.int .i64 (t))).cell? ⟨w.heap.size + 1, 0, none⟩ = some (.slice ra n rc) := by rw [World.cell?_setCell_other _ _ _ _ (by simp)]; exact World.cell?_setCell_same' _ _ _ (by rw [c4_2]; rfl)
    have r1 : ((v4.setCell ⟨w.heap.size + 1, 0, none⟩ (.slice ra n rc)).setCell ⟨w.heap.size + 1, 1, none⟩ (.int .i64 (t))).cell? ⟨w.heap.size + 1, 1, none⟩ = some (.int .i64 (t)) := World.cell?_setCell_same' _ _ _ (by rw [World.cell?_setCell_other _ _ _ _ (by simp), c4_3]; rfl)
    go_wp2_with fail
    refine bodyPost_ret (v := .tuple #[.agg #[.slice ra n rc, .int .i64 (t)], .bool false]) (by simp [results, Try.results35, go_sem, r0, r1]) rfl ?_
    rw [E.out, (ad_no E.out).1, (ad_no E.out).2, HL.out]
    refine ⟨_, rfl, ?_, ?_⟩
    · exact ((R4_1.out.setCell (p := ⟨w.heap.size + 1, 0, none⟩) (.inl (by show w.heap.size + 1 < _; omega)) _).setCell (p := ⟨w.heap.size + 1, 1, none⟩) (.inl (by show w.heap.size + 1 < _; omega)) _).wide (by omega) (by first | (simp [World.setCell]; done) | (simp [World.setCell]; omega))
    · exact ((B4.out.setCell (p := ⟨w.heap.size + 1, 0, none⟩) (by show _ ≤ w.heap.size + 1; omega) _).setCell (p := ⟨w.heap.size + 1, 1, none⟩) (by show _ ≤ w.heap.size + 1; omega) _)
  | true =>
    have HO1 : Hid (hoB [x] = true) := (ho_one x).1.trans hv
    have HO2 : Hid (hoC [x] = inc H0 (bl x) ∧ hoS [x] = x) := (ho_one x).2 hv
    have HE : Hid (cmC C t (inc H0 (bl x)) x 1 = adC C t x ∧ cmS C t (inc H0 (bl x)) x 1 = adS C t x ∧ cmB C t (inc H0 (bl x)) x 1 = adB C t x) := ⟨(ad_cm hv).2.1, (ad_cm hv).2.2, (ad_cm hv).1⟩
    have HX64 : Hid (I64 x) := by have := vB_iff.1 hv; show I64 x; unfold I64; omega
    clear hv
    go_enter Try.func35, Try.ntmps35
    go_wp2_with fail
    have HFL : Hid (∀ o, ((((w.alloc (.cells #[.slice ad n cp, .int .i64 t] 27)).alloc (.cells #[.slice none 0 0, .int .i64 0] 27)).alloc (.cells #[.int .i64 x] 3))).frozen? ⟨w.heap.size + 1 + 1, o, none⟩ = false) := fun o => new_frz (by simp)
    obtain ⟨q1, hq1⟩ : ∃ q, q = (((w.alloc (.cells #[.slice ad n cp, .int .i64 t] 27)).alloc (.cells #[.slice none 0 0, .int .i64 0] 27)).alloc (.cells #[.int .i64 x] 3)) := ⟨_, rfl⟩
    have hb1 : Below w.heap.size w q1 := by rw [hq1]; go_grown
    have sz1 : w.heap.size + 3 ≤ q1.heap.size := by rw [hq1]; simp
    have c1_0 : q1.cell? ⟨w.heap.size, 0, none⟩ = some (.slice ad n cp) := by rw [hq1, old_box (by simp <;> omega), old_box (by simp <;> omega), new_at (by simp)]; rfl
    have c1_1 : q1.cell? ⟨w.heap.size, 1, none⟩ = some (.int .i64 t) := by rw [hq1, old_box (by simp <;> omega), old_box (by simp <;> omega), new_at (by simp)]; rfl
    have c1_2 : q1.cell? ⟨w.heap.size + 1, 0, none⟩ = some (.slice none 0 0) := by rw [hq1, old_box (by simp <;> omega), new_at (by simp)]; rfl
    have c1_3 : q1.cell? ⟨w.heap.size + 1, 1, none⟩ = some (.int .i64 0) := by rw [hq1, old_box (by simp <;> omega), new_at (by simp)]; rfl
    have c1_4 : q1.cell? ⟨w.heap.size + 1 + 1, 0, none⟩ = some (.int .i64 x) := by rw [hq1, new_at (by simp)]; rfl
    have g1_0 : q1.frozen? ⟨w.heap.size + 1, 0, none⟩ = false := by rw [hq1, old_frz (by simp <;> omega), new_frz (by simp)]
    have g1_1 : q1.frozen? ⟨w.heap.size + 1, 1, none⟩ = false := by rw [hq1, old_frz (by simp <;> omega), new_frz (by simp)]
    have g1_2 : q1.frozen? ⟨w.heap.size + 1 + 1, 0, none⟩ = false := by rw [hq1, new_frz (by simp)]
    have B1 : Hid (Below w.heap.size w q1) := Lib.hid hb1
    rw [← hq1] at HFL ⊢
    have d1_0 : w.heap.size < q1.heap.size := by omega
    have e1_0 : w.heap.size ≠ q1.heap.size := by omega
    have d1_1 : w.heap.size + 1 < q1.heap.size := by omega
    have e1_1 : w.heap.size + 1 ≠ q1.heap.size := by omega
    have d1_2 : w.heap.size + 1 + 1 < q1.heap.size := by omega
    have e1_2 : w.heap.size + 1 + 1 ≠ q1.heap.size := by omega
    clear hq1 hb1
    have HRL : Hid (Row 1 q1 (w.heap.size + 1 + 1) (w.heap.size + 1 + 1 + 1) (.slice (some ⟨w.heap.size + 1 + 1, 0, none⟩) 1 1) 1 [x]) := (⟨rfl, .inr ⟨_, 1, rfl, Nat.le_refl _, Nat.lt_succ_self _, by omega, fun q z hz => one_cell c1_4 hz, HFL.out⟩⟩ : Row 1 q1 (w.heap.size + 1 + 1) (w.heap.size + 1 + 1 + 1) (.slice (some ⟨w.heap.size + 1 + 1, 0, none⟩) 1 1) 1 [x])
    go_wp2_with fail
    go_at_call 16
    refine (iho_any (w.heap.size + 1 + 1) (w.heap.size + 1 + 1 + 1) 1 _ [x] _ HRL.out (by omega)).mono ?_
    rw [HO1.out, HO2.out.1, HO2.out.2, inc_len, H0_len]
    rintro e v2 ⟨rs, rfl, hr, hb2⟩
    have sz2 : q1.heap.size ≤ v2.heap.size := hb2.size
    have st2 : Below q1.heap.size q1 v2 := hb2
    have c2_0 : v2.cell? ⟨w.heap.size, 0, none⟩ = some (.slice ad n cp) := by rw [(bcell st2).1 _ _ (by omega)]; exact c1_0
    have c2_1 : v2.cell? ⟨w.heap.size, 1, none⟩ = some (.int .i64 t) := by rw [(bcell st2).1 _ _ (by omega)]; exact c1_1
    have c2_2 : v2.cell? ⟨w.heap.size + 1, 0, none⟩ = some (.slice none 0 0) := by rw [(bcell st2).1 _ _ (by omega)]; exact c1_2
    have c2_3 : v2.cell? ⟨w.heap.size + 1, 1, none⟩ = some (.int .i64 0) := by rw [(bcell st2).1 _ _ (by omega)]; exact c1_3
    have c2_4 : v2.cell? ⟨w.heap.size + 1 + 1, 0, none⟩ = some (.int .i64 x) := by rw [(bcell st2).1 _ _ (by omega)]; exact c1_4
    have g2_0 : v2.frozen? ⟨w.heap.size + 1, 0, none⟩ = false := by rw [(bcell st2).2 _ _ (by omega)]; exact g1_0
    have g2_1 : v2.frozen? ⟨w.heap.size + 1, 1, none⟩ = false := by rw [(bcell st2).2 _ _ (by omega)]; exact g1_1
    have g2_2 : v2.frozen? ⟨w.heap.size + 1 + 1, 0, none⟩ = false := by rw [(bcell st2).2 _ _ (by omega)]; exact g1_2
    have B2 : Hid (Below w.heap.size w v2) := B1.out.trans (st2.mono (by omega))
    have R2_0 : Hid (Row 1 v2 (q1.heap.size) (v2.heap.size) rs 21 (inc H0 (bl x))) := hr
    have d2_0 : w.heap.size < v2.heap.size := by omega
    have e2_0 : w.heap.size ≠ v2.heap.size := by omega
    have d2_1 : w.heap.size + 1 < v2.heap.size := by omega
    have e2_1 : w.heap.size + 1 ≠ v2.heap.size := by omega
    have d2_2 : w.heap.size + 1 + 1 < v2.heap.size := by omega
    have e2_2 : w.heap.size + 1 + 1 ≠ v2.heap.size := by omega
    clear d1_0 e1_0 d1_1 e1_1 d1_2 e1_2 c1_0 c1_1 c1_2 c1_3 c1_4 g1_0 g1_1 g1_2 B1 st2 hr hb2
    obtain ⟨sa, sc, rfl⟩ := R2_0.out.slice
    go_upto_region 2 with fail
    obtain ⟨q3, hq3⟩ : ∃ q, q = (v2.alloc (.cells #[.slice sa 21 sc, .int .i64 x] 27)) := ⟨_, rfl⟩
    have hb3 : Below v2.heap.size v2 q3 := by rw [hq3]; go_grown
    have sz3 : v2.heap.size + 1 ≤ q3.heap.size := by rw [hq3]; simp
    have c3_0 : q3.cell? ⟨w.heap.size, 0, none⟩ = some (.slice ad n cp) := by rw [(bcell hb3).1 _ _ (by omega)]; exact c2_0
    have c3_1 : q3.cell? ⟨w.heap.size, 1, none⟩ = some (.int .i64 t) := by rw [(bcell hb3).1 _ _ (by omega)]; exact c2_1
    have c3_2 : q3.cell? ⟨w.heap.size + 1, 0, none⟩ = some (.slice none 0 0) := by rw [(bcell hb3).1 _ _ (by omega)]; exact c2_2
    have c3_3 : q3.cell? ⟨w.heap.size + 1, 1, none⟩ = some (.int .i64 0) := by rw [(bcell hb3).1 _ _ (by omega)]; exact c2_3
    have c3_4 : q3.cell? ⟨w.heap.size + 1 + 1, 0, none⟩ = some (.int .i64 x) := by rw [(bcell hb3).1 _ _ (by omega)]; exact c2_4
    have c3_5 : q3.cell? ⟨v2.heap.size, 0, none⟩ = some (.slice sa 21 sc) := by rw [hq3, new_at (by simp)]; rfl
    have c3_6 : q3.cell? ⟨v2.heap.size, 1, none⟩ = some (.int .i64 x) := by rw [hq3, new_at (by simp)]; rfl
    have g3_0 : q3.frozen? ⟨w.heap.size + 1, 0, none⟩ = false := by rw [(bcell hb3).2 _ _ (by omega)]; exact g2_0
    have g3_1 : q3.frozen? ⟨w.heap.size + 1, 1, none⟩ = false := by rw [(bcell hb3).2 _ _ (by omega)]; exact g2_1
    have g3_2 : q3.frozen? ⟨w.heap.size + 1 + 1, 0, none⟩ = false := by rw [(bcell hb3).2 _ _ (by omega)]; exact g2_2
    have B3 : Hid (Below w.heap.size w q3) := Lib.hid (B2.out.trans (hb3.mono (by omega)))
    have R3_0 : Hid (Row 1 q3 (q1.heap.size) (v2.heap.size) (.slice sa 21 sc) 21 (inc H0 (bl x))) := Lib.hid (R2_0.out.below hb3 (by omega))
    rw [← hq3]
    have d3_0 : w.heap.size < q3.heap.size := by omega
    have e3_0 : w.heap.size ≠ q3.heap.size := by omega
    have d3_1 : w.heap.size + 1 < q3.heap.size := by omega
    have e3_1 : w.heap.size + 1 ≠ q3.heap.size := by omega
    have d3_2 : w.heap.size + 1 + 1 < q3.heap.size := by omega
    have e3_2 : w.heap.size + 1 + 1 ≠ q3.heap.size := by omega
    have d3_3 : v2.heap.size < q3.heap.size := by omega
    have e3_3 : v2.heap.size ≠ q3.heap.size := by omega
    clear hq3 hb3 d2_0 e2_0 d2_1 e2_1 d2_2 e2_2 c2_0 c2_1 c2_2 c2_3 c2_4 g2_0 g2_1 g2_2 B2 R2_0
    go_wp2_with fail
    go_at_call 23
    refine (imrg_any lo hi n (q1.heap.size) (v2.heap.size) 21 _ _ t x C (inc H0 (bl x)) _ (HR1.out.below B3.out hh) R3_0.out (by have := B3.out.size; omega) (by omega) ht HX64.out).mono ?_
    rw [HE.out.1, HE.out.2.1, HE.out.2.2]
    rintro e v4 ⟨rv, rfl, hr, hb4⟩
    have sz4 : q3.heap.size ≤ v4.heap.size := hb4.size
    have st4 : Below q3.heap.size q3 v4 := hb4
    have c4_0 : v4.cell? ⟨w.heap.size, 0, none⟩ = some (.slice ad n cp) := by rw [(bcell st4).1 _ _ (by omega)]; exact c3_0
    have c4_1 : v4.cell? ⟨w.heap.size, 1, none⟩ = some (.int .i64 t) := by rw [(bcell st4).1 _ _ (by omega)]; exact c3_1
    have c4_2 : v4.cell? ⟨w.heap.size + 1, 0, none⟩ = some (.slice none 0 0) := by rw [(bcell st4).1 _ _ (by omega)]; exact c3_2
    have c4_3 : v4.cell? ⟨w.heap.size + 1, 1, none⟩ = some (.int .i64 0) := by rw [(bcell st4).1 _ _ (by omega)]; exact c3_3
    have c4_4 : v4.cell? ⟨w.heap.size + 1 + 1, 0, none⟩ = some (.int .i64 x) := by rw [(bcell st4).1 _ _ (by omega)]; exact c3_4
    have c4_5 : v4.cell? ⟨v2.heap.size, 0, none⟩ = some (.slice sa 21 sc) := by rw [(bcell st4).1 _ _ (by omega)]; exact c3_5
    have c4_6 : v4.cell? ⟨v2.heap.size, 1, none⟩ = some (.int .i64 x) := by rw [(bcell st4).1 _ _ (by omega)]; exact c3_6
    have g4_0 : v4.frozen? ⟨w.heap.size + 1, 0, none⟩ = false := by rw [(bcell st4).2 _ _ (by omega)]; exact g3_0
    have g4_1 : v4.frozen? ⟨w.heap.size + 1, 1, none⟩ = false := by rw [(bcell st4).2 _ _ (by omega)]; exact g3_1
    have g4_2 : v4.frozen? ⟨w.heap.size + 1 + 1, 0, none⟩ = false := by rw [(bcell st4).2 _ _ (by omega)]; exact g3_2
    have B4 : Hid (Below w.heap.size w v4) := B3.out.trans (st4.mono (by omega))
    have R4_0 : Hid (Row 1 v4 (q1.heap.size) (v2.heap.size) (.slice sa 21 sc) 21 (inc H0 (bl x))) := R3_0.out.below st4 (by omega)
    have R4_1 : Hid (Row 1 v4 (q3.heap.size) (v4.heap.size) rv n (adC C t x)) := hr
    have d4_0 : w.heap.size < v4.heap.size := by omega
    have e4_0 : w.heap.size ≠ v4.heap.size := by omega
    have d4_1 : w.heap.size + 1 < v4.heap.size := by omega
    have e4_1 : w.heap.size + 1 ≠ v4.heap.size := by omega
    have d4_2 : w.heap.size + 1 + 1 < v4.heap.size := by omega
    have e4_2 : w.heap.size + 1 + 1 ≠ v4.heap.size := by omega
    have d4_3 : v2.heap.size < v4.heap.size := by omega
    have e4_3 : v2.heap.size ≠ v4.heap.size := by omega
    clear d3_0 e3_0 d3_1 e3_1 d3_2 e3_2 d3_3 e3_3 c3_0 c3_1 c3_2 c3_3 c3_4 c3_5 c3_6 g3_0 g3_1 g3_2 B3 st4 R3_0 hr hb4
    obtain ⟨ra, rc, rfl⟩ := R4_1.out.slice
    obtain ⟨SS, hSS⟩ : ∃ S, S = adS C t x := ⟨_, rfl⟩
    obtain ⟨BB, hBB⟩ : ∃ S, S = adB C t x := ⟨_, rfl⟩
    have HSS := Lib.hid hSS
    have HBB := Lib.hid hBB
    simp only [← hSS, ← hBB]
    clear hSS hBB
    have r0 : ((v4.setCell ⟨w.heap.size + 1, 0, none⟩ (.slice ra n rc)).setCell ⟨w.heap.size + 1, 1, none⟩ (.int .i64 (SS))).cell? ⟨w.heap.size + 1, 0, none⟩ = some (.slice ra n rc) := by rw [World.cell?_setCell_other _ _ _ _ (by simp)]; exact World.cell?_setCell_same' _ _ _ (by rw [c4_2]; rfl)
    have r1 : ((v4.setCell ⟨w.heap.size + 1, 0, none⟩ (.slice ra n rc)).setCell ⟨w.heap.size + 1, 1, none⟩ (.int .i64 (SS))).cell? ⟨w.heap.size + 1, 1, none⟩ = some (.int .i64 (SS)) := World.cell?_setCell_same' _ _ _ (by rw [World.cell?_setCell_other _ _ _ _ (by simp), c4_3]; rfl)
    go_wp2_with fail
    refine bodyPost_ret (v := .tuple #[.agg #[.slice ra n rc, .int .i64 (SS)], .bool BB]) (by simp [results, Try.results35, go_sem, r0, r1]) rfl ?_
    rw [adC_len, HL.out, ← HSS.out, ← HBB.out]
    refine ⟨_, rfl, ?_, ?_⟩
    · exact ((R4_1.out.setCell (p := ⟨w.heap.size + 1, 0, none⟩) (.inl (by show w.heap.size + 1 < _; omega)) _).setCell (p := ⟨w.heap.size + 1, 1, none⟩) (.inl (by show w.heap.size + 1 < _; omega)) _).wide (by omega) (by first | (simp [World.setCell]; done) | (simp [World.setCell]; omega))
    · exact ((B4.out.setCell (p := ⟨w.heap.size + 1, 0, none⟩) (by show _ ≤ w.heap.size + 1; omega) _).setCell (p := ⟨w.heap.size + 1, 1, none⟩) (by show _ ≤ w.heap.size + 1; omega) _)

end Go.Proofs.Ytcchoiobdcaboaa
