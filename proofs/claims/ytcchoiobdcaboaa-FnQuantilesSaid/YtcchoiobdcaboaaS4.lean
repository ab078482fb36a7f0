/- The quantile, by both. -/
import Derived.Test.YtcchoiobdcaboaaS3
namespace Go.Proofs.Ytcchoiobdcaboaa
open Go.RowKit


/-- The bucket in which the value with the index a lies. -/
def qk : List Int → Int → Nat
  | [], _ => 0
  | c :: C, a => if c ≤ a then 1 + qk C (a - c) else 0
def quaB (C : List Int) (t per : Int) : Prop := 1 ≤ cntV C t ∧ 0 ≤ per ∧ per ≤ 1000
instance (C : List Int) (t per : Int) : Decidable (quaB C t per) := by unfold quaB; infer_instance
def quaK (C : List Int) (t per : Int) : Nat := qk C ((cntV C t - 1) * per / 1000)
def quaL (C : List Int) (t per : Int) : Int := if quaB C t per then rlo (quaK C t per) else -1
def quaH (C : List Int) (t per : Int) : Int := if quaB C t per then rhi (quaK C t per) else -1
theorem qua_no {C : List Int} {t per : Int} (h : ¬ quaB C t per) : quaL C t per = -1 ∧ quaH C t per = -1 := by unfold quaL quaH; rw [if_neg h, if_neg h]; exact ⟨rfl, rfl⟩
theorem qua_yes {C : List Int} {t per : Int} (h : quaB C t per) : quaL C t per = rlo (quaK C t per) ∧ quaH C t per = rhi (quaK C t per) := by unfold quaL quaH; rw [if_pos h, if_pos h]; exact ⟨rfl, rfl⟩
theorem ret_pair {a b c d : Int} (h : a = c) (h' : b = d) : Ending.returned (.tuple #[.int .i64 a, .int .i64 b]) = .returned (.tuple #[.int .i64 c, .int .i64 d]) := by rw [h, h']
theorem qua_at {m per : Int} (h1 : 1 ≤ m) (h2 : m ≤ 21000000) (h3 : 0 ≤ per) (h4 : per ≤ 1000) : 0 ≤ (m - 1) * per ∧ (m - 1) * per ≤ 21000000000 ∧ (m - 1) * per / 1000 < m := by
  have a := Int.mul_nonneg (show 0 ≤ m - 1 by omega) h3
  have b : (m - 1) * per ≤ (m - 1) * 1000 := Int.mul_le_mul_of_nonneg_left h4 (by omega)
  refine ⟨a, by omega, by omega⟩
/-- The search at bucket k with the index a left. -/
def Srch (C : List Int) (K k : Nat) (a : Int) : Prop := k + qk (C.drop k) a = K ∧ 0 ≤ a ∧ a + cS C k < cS C 21
theorem Srch.lt {C : List Int} {K k : Nat} {a : Int} (h : Srch C K k a) (hk : k ≤ 21) : k < 21 := by
  rcases Nat.lt_or_ge k 21 with h1 | h1
  · exact h1
  · obtain rfl : k = 21 := by omega
    have := h.2
    omega
theorem Srch.split {C : List Int} {K k : Nat} {a : Int} (h : Srch C K k a) (hl : C.length = 21) (hk : k < 21) : k + (if cAt C k ≤ a then 1 + qk (C.drop (k + 1)) (a - cAt C k) else 0) = K := by
  have := h.1
  rw [List.drop_eq_getElem_cons (by omega), qk] at this
  have e : C[k] = cAt C k := (cAt_of (List.getElem?_eq_getElem (by omega))).symm
  rw [e] at this
  exact this
theorem Srch.next {C : List Int} {K k : Nat} {a : Int} (h : Srch C K k a) (hl : C.length = 21) (hk : k < 21) (hz : cAt C k ≤ a) : Srch C K (k + 1) (a - cAt C k) := by
  have := h.split hl hk
  rw [if_pos hz] at this
  refine ⟨by omega, by omega, ?_⟩
  rw [cS]
  have := h.2.2
  omega
theorem Srch.found {C : List Int} {K k : Nat} {a : Int} (h : Srch C K k a) (hl : C.length = 21) (hk : k < 21) (hz : ¬ cAt C k ≤ a) : k = K := by
  have := h.split hl hk
  rw [if_neg hz] at this
  omega

set_option maxRecDepth 100000 in
set_option maxHeartbeats 4000000 in
theorem squa_any (lo hi n : Nat) (v : Value) (t : Int) (C : List Int) (w : World) (hr : Row 1 w lo hi v n C) (hh : hi ≤ w.heap.size) (ht : I64 t) (per : Int) :
    Calls Try.prog 43 #[.agg #[v, .int .i64 t], .int .i64 per] w fun e w' => e = .returned (.tuple #[.int .i64 (quaL C t per), .int .i64 (quaH C t per)]) ∧ Below w.heap.size w w' := by
  have HR := Lib.hid hr
  have hl : C.length = n := by have := hr.1; omega
  obtain ⟨ad, cp, rfl, hn, hc⟩ := hr.opened
  clear hr
  have hin := cnt_in C t
  obtain ⟨m, hm⟩ : ∃ m, m = cntV C t := ⟨_, rfl⟩
  rw [← hm] at hin
  obtain ⟨i0, i1⟩ := hin
  by_cases h1 : m < 1
  case pos =>
    rw [(qua_no (C := C) (t := t) (per := per) (by unfold quaB; omega)).1, (qua_no (C := C) (t := t) (per := per) (by unfold quaB; omega)).2]
    have HM := Lib.hid hm
    clear hm
    go_enter Try.func43, Try.ntmps43
    go_wp2_with fail
    go_at_call 42
    refine (scnt_any lo hi n _ t C _ (HR.out.below (B := w.heap.size) (by go_grown) hh) (by simp; omega) ht).mono ?_
    rw [← HM.out]
    rintro e v1 ⟨rfl, hb1⟩
    have sz1 : w.heap.size + 1 ≤ v1.heap.size := by have hh := hb1.size; simp at hh; omega
    have st1 : Below w.heap.size w v1 := Below.trans (by go_grown) (hb1.mono (by simp))
    have c1_0 : v1.cell? ⟨w.heap.size, 0, none⟩ = some (.slice ad n cp) := by rw [(bcell hb1).1 _ _ (by simp)]; first | (rw [new_at (by simp)]; rfl) | simp
    have c1_1 : v1.cell? ⟨w.heap.size, 1, none⟩ = some (.int .i64 t) := by rw [(bcell hb1).1 _ _ (by simp)]; first | (rw [new_at (by simp)]; rfl) | simp
    have B1 : Hid (Below w.heap.size w v1) := st1
    have d1_0 : w.heap.size < v1.heap.size := by omega
    have e1_0 : w.heap.size ≠ v1.heap.size := by omega
    clear st1 hb1
    go_wp2_with fail
    go_ret2
    exact ⟨rfl, B1.out⟩
  case neg =>
  by_cases h2 : per < 0
  case pos =>
    rw [(qua_no (C := C) (t := t) (per := per) (by unfold quaB; omega)).1, (qua_no (C := C) (t := t) (per := per) (by unfold quaB; omega)).2]
    have HM := Lib.hid hm
    have HI : Hid (inB per 0 1000 = false) := by show _ = _; rw [Bool.eq_false_iff, ne_eq, inB_iff]; omega
    clear hm
    go_enter Try.func43, Try.ntmps43
    go_wp2_with fail
    go_at_call 42
    refine (scnt_any lo hi n _ t C _ (HR.out.below (B := w.heap.size) (by go_grown) hh) (by simp; omega) ht).mono ?_
    rw [← HM.out]
    rintro e v1 ⟨rfl, hb1⟩
    have sz1 : w.heap.size + 1 ≤ v1.heap.size := by have hh := hb1.size; simp at hh; omega
    have st1 : Below w.heap.size w v1 := Below.trans (by go_grown) (hb1.mono (by simp))
    have c1_0 : v1.cell? ⟨w.heap.size, 0, none⟩ = some (.slice ad n cp) := by rw [(bcell hb1).1 _ _ (by simp)]; first | (rw [new_at (by simp)]; rfl) | simp
    have c1_1 : v1.cell? ⟨w.heap.size, 1, none⟩ = some (.int .i64 t) := by rw [(bcell hb1).1 _ _ (by simp)]; first | (rw [new_at (by simp)]; rfl) | simp
    have B1 : Hid (Below w.heap.size w v1) := st1
    have d1_0 : w.heap.size < v1.heap.size := by omega
    have e1_0 : w.heap.size ≠ v1.heap.size := by omega
    clear st1 hb1
    go_wp2_with (go_at_call 54; refine (in_any _ 0 1000 _).mono ?_; rw [HI.out]; rintro e w2 ⟨rfl, rfl⟩)
    go_ret2
    exact ⟨rfl, B1.out⟩
  case neg =>
  by_cases h3 : per > 1000
  case pos =>
    rw [(qua_no (C := C) (t := t) (per := per) (by unfold quaB; omega)).1, (qua_no (C := C) (t := t) (per := per) (by unfold quaB; omega)).2]
    have HM := Lib.hid hm
    have HI : Hid (inB per 0 1000 = false) := by show _ = _; rw [Bool.eq_false_iff, ne_eq, inB_iff]; omega
    clear hm
    go_enter Try.func43, Try.ntmps43
    go_wp2_with fail
    go_at_call 42
    refine (scnt_any lo hi n _ t C _ (HR.out.below (B := w.heap.size) (by go_grown) hh) (by simp; omega) ht).mono ?_
    rw [← HM.out]
    rintro e v1 ⟨rfl, hb1⟩
    have sz1 : w.heap.size + 1 ≤ v1.heap.size := by have hh := hb1.size; simp at hh; omega
    have st1 : Below w.heap.size w v1 := Below.trans (by go_grown) (hb1.mono (by simp))
    have c1_0 : v1.cell? ⟨w.heap.size, 0, none⟩ = some (.slice ad n cp) := by rw [(bcell hb1).1 _ _ (by simp)]; first | (rw [new_at (by simp)]; rfl) | simp
    have c1_1 : v1.cell? ⟨w.heap.size, 1, none⟩ = some (.int .i64 t) := by rw [(bcell hb1).1 _ _ (by simp)]; first | (rw [new_at (by simp)]; rfl) | simp
    have B1 : Hid (Below w.heap.size w v1) := st1
    have d1_0 : w.heap.size < v1.heap.size := by omega
    have e1_0 : w.heap.size ≠ v1.heap.size := by omega
    clear st1 hb1
    go_wp2_with (go_at_call 54; refine (in_any _ 0 1000 _).mono ?_; rw [HI.out]; rintro e w2 ⟨rfl, rfl⟩)
    go_ret2
    exact ⟨rfl, B1.out⟩
  case neg =>
  have m1 : 1 ≤ m := by omega
  have r0 : 0 ≤ per := by omega
  have r1 : per ≤ 1000 := by omega
  cases hk : hkB C t with
  | false => rw [hm, cnt_no hk] at m1; omega
  | true =>
  obtain ⟨h21, hok, _⟩ := hkB_iff.1 hk
  have HOK := Lib.hid hok
  obtain rfl : n = 21 := by omega
  obtain ⟨g, rfl, hg, hcell⟩ := hc (by omega)
  have HCL := Lib.hid hcell
  have HL := Lib.hid h21
  have hq := qua_yes (C := C) (t := t) (per := per) (by unfold quaB; omega)
  obtain ⟨p0, p1, p2⟩ := qua_at m1 i1 r0 r1
  obtain ⟨K, hK⟩ : ∃ K, K = quaK C t per := ⟨_, rfl⟩
  rw [← hK] at hq
  have EQ := Lib.hid hq
  have hsr : Srch C K 0 ((m - 1) * per / 1000) := ⟨by rw [hK, hm, Nat.zero_add]; rfl, by omega, by show _ + 0 < _; rw [← cnt_yes hk, ← hm]; omega⟩
  have HSR := Lib.hid hsr
  have HM := Lib.hid hm
  have HI : Hid (inB per 0 1000 = true) := by show _ = _; rw [inB_iff]; omega
  clear hc hcell hok h21 hl hq hK hsr hm hk
  go_enter Try.func43, Try.ntmps43
  go_wp2_with fail
  go_at_call 42
  refine (scnt_any lo hi 21 _ t C _ (HR.out.below (B := w.heap.size) (by go_grown) hh) (by simp; omega) ht).mono ?_
  rw [← HM.out]
  rintro e v1 ⟨rfl, hb1⟩
  have sz1 : w.heap.size + 1 ≤ v1.heap.size := by have hh := hb1.size; simp at hh; omega
  have st1 : Below w.heap.size w v1 := Below.trans (by go_grown) (hb1.mono (by simp))
  have c1_0 : v1.cell? ⟨w.heap.size, 0, none⟩ = some (.slice (some ⟨g, 0, none⟩) 21 cp) := by rw [(bcell hb1).1 _ _ (by simp)]; first | (rw [new_at (by simp)]; rfl) | simp
  have c1_1 : v1.cell? ⟨w.heap.size, 1, none⟩ = some (.int .i64 t) := by rw [(bcell hb1).1 _ _ (by simp)]; first | (rw [new_at (by simp)]; rfl) | simp
  have B1 : Hid (Below w.heap.size w v1) := st1
  have d1_0 : w.heap.size < v1.heap.size := by omega
  have e1_0 : w.heap.size ≠ v1.heap.size := by omega
  clear st1 hb1
  have HCELL : Hid (∀ q z, C[q]? = some z → v1.cell? ⟨g, q, none⟩ = some (.int .i64 z)) := fun q z hz => by rw [B1.out.cell (p := ⟨g, q, none⟩) (by show g < _; omega)]; exact HCL.out q z hz
  go_wp2_with (go_at_call 54; refine (in_any _ 0 1000 _).mono ?_; rw [HI.out]; rintro e w2 ⟨rfl, rfl⟩)
  obtain ⟨a0, ha0⟩ : ∃ a, a = (m - 1) * per / 1000 := ⟨_, rfl⟩
  have b0 : 0 ≤ a0 := by omega
  have b1 : a0 < 21000000 := by omega
  rw [← ha0] at HSR
  simp only [← ha0]
  clear ha0 p0 p1 p2
  go_loop [7, 8] (fun s i => ∃ (k : Nat) (a : Int), k ≤ 21 ∧ i = .int .i64 (k : Int) ∧ s = .int .i64 a ∧ 0 ≤ a ∧ a < 21000000 ∧ Hid (Srch C K k a)) (fun _ i => 22 - (intOf i).toNat)
  case atStart => exact ⟨0, a0, by omega, rfl, rfl, b0, b1, HSR⟩
  case round =>
    obtain ⟨k, a, hk', rfl, rfl, ha0, ha1, hS⟩ := hrel
    have hlt := hS.out.lt hk'
    obtain ⟨z, hz⟩ : ∃ z, z = cAt C k := ⟨_, rfl⟩
    have d0 : v1.cell? ⟨g, k, none⟩ = some (.int .i64 z) := HCELL.out k z (by rw [hz]; exact cAt_some (by rw [HL.out]; omega))
    have hz0 := cOk_at HOK.out hlt
    rw [← hz] at hz0
    obtain ⟨z0, z1⟩ := hz0
    have hq : (k : Int) < 21 := by omega
    by_cases hle : z ≤ a
    case pos =>
      have hge : a ≥ z := hle
      have hS2 := hS.out.next HL.out hlt (by rw [← hz]; exact hle)
      rw [← hz] at hS2
      have HS2 := Lib.hid hS2
      clear hz hS hS2
      go_wp2_with fail
      go_round
      case rel => exact ⟨k + 1, _, by omega, by go_num, rfl, by omega, by omega, HS2⟩
      case measure => simp [intOf]; omega
    case neg =>
      have hge : ¬ a ≥ z := hle
      have hf := hS.out.found HL.out hlt (by rw [← hz]; exact hle)
      have HF := Lib.hid hf
      clear hz hS hf
      go_wp2_with (go_at_call 27; refine (sbr_any _ _).mono ?_; rintro e w3 ⟨rfl, rfl⟩)
      go_ret2
      exact ⟨ret_pair (by rw [EQ.out.1, HF.out]) (by rw [EQ.out.2, HF.out]), B1.out⟩

set_option maxRecDepth 100000 in
set_option maxHeartbeats 4000000 in
theorem iqua_any (lo hi n : Nat) (v : Value) (t : Int) (C : List Int) (w : World) (hr : Row 1 w lo hi v n C) (hh : hi ≤ w.heap.size) (ht : I64 t) (per : Int) :
    Calls Try.prog 20 #[.agg #[v, .int .i64 t], .int .i64 per] w fun e w' => e = .returned (.tuple #[.int .i64 (quaL C t per), .int .i64 (quaH C t per)]) ∧ Below w.heap.size w w' := by
  have HR := Lib.hid hr
  have hl : C.length = n := by have := hr.1; omega
  obtain ⟨ad, cp, rfl, hn, hc⟩ := hr.opened
  clear hr
  have hin := cnt_in C t
  obtain ⟨m, hm⟩ : ∃ m, m = cntV C t := ⟨_, rfl⟩
  rw [← hm] at hin
  obtain ⟨i0, i1⟩ := hin
  by_cases h1 : m < 1
  case pos =>
    rw [(qua_no (C := C) (t := t) (per := per) (by unfold quaB; omega)).1, (qua_no (C := C) (t := t) (per := per) (by unfold quaB; omega)).2]
    have HM := Lib.hid hm
    clear hm
    go_enter Try.func20, Try.ntmps20
    go_wp2_with fail
    go_at_call 22
    refine (icnt_any lo hi n _ t C _ (HR.out.below (B := w.heap.size) (by go_grown) hh) (by simp; omega) ht).mono ?_
    rw [← HM.out]
    rintro e v1 ⟨rfl, hb1⟩
    have sz1 : w.heap.size + 1 ≤ v1.heap.size := by have hh := hb1.size; simp at hh; omega
    have st1 : Below w.heap.size w v1 := Below.trans (by go_grown) (hb1.mono (by simp))
    have c1_0 : v1.cell? ⟨w.heap.size, 0, none⟩ = some (.slice ad n cp) := by rw [(bcell hb1).1 _ _ (by simp)]; first | (rw [new_at (by simp)]; rfl) | simp
    have c1_1 : v1.cell? ⟨w.heap.size, 1, none⟩ = some (.int .i64 t) := by rw [(bcell hb1).1 _ _ (by simp)]; first | (rw [new_at (by simp)]; rfl) | simp
    have B1 : Hid (Below w.heap.size w v1) := st1
    have d1_0 : w.heap.size < v1.heap.size := by omega
    have e1_0 : w.heap.size ≠ v1.heap.size := by omega
    clear st1 hb1
    go_wp2_with fail
    go_ret2
    exact ⟨rfl, B1.out⟩
  case neg =>
  by_cases h2 : per < 0
  case pos =>
    rw [(qua_no (C := C) (t := t) (per := per) (by unfold quaB; omega)).1, (qua_no (C := C) (t := t) (per := per) (by unfold quaB; omega)).2]
    have HM := Lib.hid hm
    have HI : Hid (inB per 0 1000 = false) := by show _ = _; rw [Bool.eq_false_iff, ne_eq, inB_iff]; omega
    clear hm
    go_enter Try.func20, Try.ntmps20
    go_wp2_with fail
    go_at_call 22
    refine (icnt_any lo hi n _ t C _ (HR.out.below (B := w.heap.size) (by go_grown) hh) (by simp; omega) ht).mono ?_
    rw [← HM.out]
    rintro e v1 ⟨rfl, hb1⟩
    have sz1 : w.heap.size + 1 ≤ v1.heap.size := by have hh := hb1.size; simp at hh; omega
    have st1 : Below w.heap.size w v1 := Below.trans (by go_grown) (hb1.mono (by simp))
    have c1_0 : v1.cell? ⟨w.heap.size, 0, none⟩ = some (.slice ad n cp) := by rw [(bcell hb1).1 _ _ (by simp)]; first | (rw [new_at (by simp)]; rfl) | simp
    have c1_1 : v1.cell? ⟨w.heap.size, 1, none⟩ = some (.int .i64 t) := by rw [(bcell hb1).1 _ _ (by simp)]; first | (rw [new_at (by simp)]; rfl) | simp
    have B1 : Hid (Below w.heap.size w v1) := st1
    have d1_0 : w.heap.size < v1.heap.size := by omega
    have e1_0 : w.heap.size ≠ v1.heap.size := by omega
    clear st1 hb1
    go_wp2_with fail
    go_ret2
    exact ⟨rfl, B1.out⟩
  case neg =>
  by_cases h3 : per > 1000
  case pos =>
    rw [(qua_no (C := C) (t := t) (per := per) (by unfold quaB; omega)).1, (qua_no (C := C) (t := t) (per := per) (by unfold quaB; omega)).2]
    have HM := Lib.hid hm
    have HI : Hid (inB per 0 1000 = false) := by show _ = _; rw [Bool.eq_false_iff, ne_eq, inB_iff]; omega
    clear hm
    go_enter Try.func20, Try.ntmps20
    go_wp2_with fail
    go_at_call 22
    refine (icnt_any lo hi n _ t C _ (HR.out.below (B := w.heap.size) (by go_grown) hh) (by simp; omega) ht).mono ?_
    rw [← HM.out]
    rintro e v1 ⟨rfl, hb1⟩
    have sz1 : w.heap.size + 1 ≤ v1.heap.size := by have hh := hb1.size; simp at hh; omega
    have st1 : Below w.heap.size w v1 := Below.trans (by go_grown) (hb1.mono (by simp))
    have c1_0 : v1.cell? ⟨w.heap.size, 0, none⟩ = some (.slice ad n cp) := by rw [(bcell hb1).1 _ _ (by simp)]; first | (rw [new_at (by simp)]; rfl) | simp
    have c1_1 : v1.cell? ⟨w.heap.size, 1, none⟩ = some (.int .i64 t) := by rw [(bcell hb1).1 _ _ (by simp)]; first | (rw [new_at (by simp)]; rfl) | simp
    have B1 : Hid (Below w.heap.size w v1) := st1
    have d1_0 : w.heap.size < v1.heap.size := by omega
    have e1_0 : w.heap.size ≠ v1.heap.size := by omega
    clear st1 hb1
    go_wp2_with fail
    go_ret2
    exact ⟨rfl, B1.out⟩
  case neg =>
  have m1 : 1 ≤ m := by omega
  have r0 : 0 ≤ per := by omega
  have r1 : per ≤ 1000 := by omega
  cases hk : hkB C t with
  | false => rw [hm, cnt_no hk] at m1; omega
  | true =>
  obtain ⟨h21, hok, _⟩ := hkB_iff.1 hk
  have HOK := Lib.hid hok
  obtain rfl : n = 21 := by omega
  obtain ⟨g, rfl, hg, hcell⟩ := hc (by omega)
  have HCL := Lib.hid hcell
  have HL := Lib.hid h21
  have hq := qua_yes (C := C) (t := t) (per := per) (by unfold quaB; omega)
  obtain ⟨p0, p1, p2⟩ := qua_at m1 i1 r0 r1
  obtain ⟨K, hK⟩ : ∃ K, K = quaK C t per := ⟨_, rfl⟩
  rw [← hK] at hq
  have EQ := Lib.hid hq
  have hsr : Srch C K 0 ((m - 1) * per / 1000) := ⟨by rw [hK, hm, Nat.zero_add]; rfl, by omega, by show _ + 0 < _; rw [← cnt_yes hk, ← hm]; omega⟩
  have HSR := Lib.hid hsr
  have HM := Lib.hid hm
  have HI : Hid (inB per 0 1000 = true) := by show _ = _; rw [inB_iff]; omega
  clear hc hcell hok h21 hl hq hK hsr hm hk
  go_enter Try.func20, Try.ntmps20
  go_wp2_with fail
  go_at_call 22
  refine (icnt_any lo hi 21 _ t C _ (HR.out.below (B := w.heap.size) (by go_grown) hh) (by simp; omega) ht).mono ?_
  rw [← HM.out]
  rintro e v1 ⟨rfl, hb1⟩
  have sz1 : w.heap.size + 1 ≤ v1.heap.size := by have hh := hb1.size; simp at hh; omega
  have st1 : Below w.heap.size w v1 := Below.trans (by go_grown) (hb1.mono (by simp))
  have c1_0 : v1.cell? ⟨w.heap.size, 0, none⟩ = some (.slice (some ⟨g, 0, none⟩) 21 cp) := by rw [(bcell hb1).1 _ _ (by simp)]; first | (rw [new_at (by simp)]; rfl) | simp
  have c1_1 : v1.cell? ⟨w.heap.size, 1, none⟩ = some (.int .i64 t) := by rw [(bcell hb1).1 _ _ (by simp)]; first | (rw [new_at (by simp)]; rfl) | simp
  have B1 : Hid (Below w.heap.size w v1) := st1
  have d1_0 : w.heap.size < v1.heap.size := by omega
  have e1_0 : w.heap.size ≠ v1.heap.size := by omega
  clear st1 hb1
  have HCELL : Hid (∀ q z, C[q]? = some z → v1.cell? ⟨g, q, none⟩ = some (.int .i64 z)) := fun q z hz => by rw [B1.out.cell (p := ⟨g, q, none⟩) (by show g < _; omega)]; exact HCL.out q z hz
  go_wp2_with fail
  obtain ⟨a0, ha0⟩ : ∃ a, a = (m - 1) * per / 1000 := ⟨_, rfl⟩
  have b0 : 0 ≤ a0 := by omega
  have b1 : a0 < 21000000 := by omega
  rw [← ha0] at HSR
  simp only [← ha0]
  clear ha0 p0 p1 p2
  go_loop [7, 8] (fun s i => ∃ (k : Nat) (a : Int), k ≤ 21 ∧ i = .int .i64 (k : Int) ∧ s = .int .i64 a ∧ 0 ≤ a ∧ a < 21000000 ∧ Hid (Srch C K k a)) (fun _ i => 22 - (intOf i).toNat)
  case atStart => exact ⟨0, a0, by omega, rfl, rfl, b0, b1, HSR⟩
  case round =>
    obtain ⟨k, a, hk', rfl, rfl, ha0, ha1, hS⟩ := hrel
    have hlt := hS.out.lt hk'
    obtain ⟨z, hz⟩ : ∃ z, z = cAt C k := ⟨_, rfl⟩
    have d0 : v1.cell? ⟨g, k, none⟩ = some (.int .i64 z) := HCELL.out k z (by rw [hz]; exact cAt_some (by rw [HL.out]; omega))
    have hz0 := cOk_at HOK.out hlt
    rw [← hz] at hz0
    obtain ⟨z0, z1⟩ := hz0
    have hq : (k : Int) < 21 := by omega
    by_cases hle : z ≤ a
    case pos =>
      have hge : a ≥ z := hle
      have hS2 := hS.out.next HL.out hlt (by rw [← hz]; exact hle)
      rw [← hz] at hS2
      have HS2 := Lib.hid hS2
      clear hz hS hS2
      go_wp2_with fail
      go_round
      case rel => exact ⟨k + 1, _, by omega, by go_num, rfl, by omega, by omega, HS2⟩
      case measure => simp [intOf]; omega
    case neg =>
      have hge : ¬ a ≥ z := hle
      have hf := hS.out.found HL.out hlt (by rw [← hz]; exact hle)
      have HF := Lib.hid hf
      clear hz hS hf
      go_wp2_with (go_at_call 28; refine (ibr_any _ _).mono ?_; rintro e w3 ⟨rfl, rfl⟩)
      go_ret2
      exact ⟨ret_pair (by rw [EQ.out.1, HF.out]) (by rw [EQ.out.2, HF.out]), B1.out⟩

end Go.Proofs.Ytcchoiobdcaboaa
