/- How many values, and their mean, by both. -/
import Derived.Test.YtcchoiobdcaboaaS2
namespace Go.Proofs.Ytcchoiobdcaboaa
open Go.RowKit


/-- How many values a histogram holds. -/
def cntV (C : List Int) (t : Int) : Int := if hkB C t then cS C 21 else -1
theorem cnt_no {C : List Int} {t : Int} (h : hkB C t = false) : cntV C t = -1 := by unfold cntV; rw [h]; rfl
theorem cnt_yes {C : List Int} {t : Int} (h : hkB C t = true) : cntV C t = cS C 21 := by unfold cntV; rw [h]; rfl
theorem cnt_in (C : List Int) (t : Int) : -1 ≤ cntV C t ∧ cntV C t ≤ 21000000 := by
  cases h : hkB C t with
  | false => rw [cnt_no h]; omega
  | true =>
    rw [cnt_yes h]
    obtain ⟨_, h2, _⟩ := hkB_iff.1 h
    have := (S_in (Nat.le_refl 21) h2).2
    omega
theorem cS_next {C : List Int} {k : Nat} (h : cOk C 21 = true) (hk : k < 21) : 0 ≤ cS C k ∧ cS C k + cAt C k ≤ 21000000 ∧ 0 ≤ cAt C k := by
  have hz := cOk_at h hk
  have hc : ∀ j, j ≤ 21 → cOk C j = true := fun j hj => cOk_of fun i hi => cOk_at h (by omega)
  have h1 := (S_in (by omega) (hc k (by omega))).2
  have h2 := (S_in (by omega) (hc (k + 1) (by omega))).2
  rw [cS] at h2
  push_cast at h2
  omega
def meanV (C : List Int) (t : Int) : Int := if cntV C t < 1 then -1 else t / cntV C t

set_option maxRecDepth 100000 in
set_option maxHeartbeats 4000000 in
theorem scnt_any (lo hi n : Nat) (v : Value) (t : Int) (C : List Int) (w : World) (hr : Row 1 w lo hi v n C) (hh : hi ≤ w.heap.size) (ht : I64 t) :
    Calls Try.prog 42 #[.agg #[v, .int .i64 t]] w fun e w' => e = .returned (.int .i64 (cntV C t)) ∧ Below w.heap.size w w' := by
  have HR := Lib.hid hr
  have hl : C.length = n := by have := hr.1; omega
  obtain ⟨ad, cp, rfl, hn, hc⟩ := hr.opened
  clear hr
  cases hk : hkB C t with
  | false =>
    rw [cnt_no hk]
    clear hc hl
    go_enter Try.func42, Try.ntmps42
    go_wp2_with fail
    go_at_call 30
    refine (shok_any lo hi n _ t C _ (HR.out.below (B := w.heap.size) (by go_grown) hh) (by simp; omega) ht).mono ?_
    rw [hk]
    rintro e v1 ⟨rfl, hb1⟩
    have sz1 : w.heap.size + 1 ≤ v1.heap.size := by have hh := hb1.size; simp at hh; omega
    have st1 : Below w.heap.size w v1 := Below.trans (by go_grown) (hb1.mono (by simp))
    have c1_0 : v1.cell? ⟨w.heap.size, 0, none⟩ = some (.slice ad n cp) := by rw [(bcell hb1).1 _ _ (by simp)]; first | (rw [new_at (by simp)]; rfl) | simp
    have c1_1 : v1.cell? ⟨w.heap.size, 1, none⟩ = some (.int .i64 t) := by rw [(bcell hb1).1 _ _ (by simp)]; first | (rw [new_at (by simp)]; rfl) | simp
    have B1 : Hid (Below w.heap.size w v1) := st1
    have d1_0 : w.heap.size < v1.heap.size := by omega
    have e1_0 : w.heap.size ≠ v1.heap.size := by omega
    clear st1 hb1
    go_wp2_with fail
    go_ret
    exact ⟨rfl, B1.out⟩
  | true =>
    obtain ⟨h21, hok, _⟩ := hkB_iff.1 hk
    have HOK := Lib.hid hok
    obtain rfl : n = 21 := by omega
    obtain ⟨g, rfl, hg, hcell⟩ := hc (by omega)
    have HCL := Lib.hid hcell
    have HL := Lib.hid hl
    have E : Hid (cS C 21 = cntV C t) := (cnt_yes hk).symm
    clear hc hcell hok h21 hl
    go_enter Try.func42, Try.ntmps42
    go_wp2_with fail
    go_at_call 30
    refine (shok_any lo hi 21 _ t C _ (HR.out.below (B := w.heap.size) (by go_grown) hh) (by simp; omega) ht).mono ?_
    rw [hk]
    rintro e v1 ⟨rfl, hb1⟩
    have sz1 : w.heap.size + 1 ≤ v1.heap.size := by have hh := hb1.size; simp at hh; omega
    have st1 : Below w.heap.size w v1 := Below.trans (by go_grown) (hb1.mono (by simp))
    have c1_0 : v1.cell? ⟨w.heap.size, 0, none⟩ = some (.slice (some ⟨g, 0, none⟩) 21 cp) := by rw [(bcell hb1).1 _ _ (by simp)]; first | (rw [new_at (by simp)]; rfl) | simp
    have c1_1 : v1.cell? ⟨w.heap.size, 1, none⟩ = some (.int .i64 t) := by rw [(bcell hb1).1 _ _ (by simp)]; first | (rw [new_at (by simp)]; rfl) | simp
    have B1 : Hid (Below w.heap.size w v1) := st1
    have d1_0 : w.heap.size < v1.heap.size := by omega
    have e1_0 : w.heap.size ≠ v1.heap.size := by omega
    clear st1 hb1
    have HCELL : Hid (∀ q z, C[q]? = some z → v1.cell? ⟨g, q, none⟩ = some (.int .i64 z)) := fun q z hz => by rw [B1.out.cell (p := ⟨g, q, none⟩) (by show g < _; omega)]; exact HCL.out q z hz
    go_wp2_with fail
    go_loop [3, 4] (fun s i => ∃ (k : Nat) (a : Int), k ≤ 21 ∧ i = .int .i64 (k : Int) ∧ s = .int .i64 a ∧ Hid (a = cS C k)) (fun _ i => 21 - (intOf i).toNat)
    case atStart => exact ⟨0, 0, by omega, rfl, rfl, Lib.hid rfl⟩
    case round =>
      obtain ⟨k, a, hk', rfl, rfl, hS⟩ := hrel
      by_cases hlt : k < 21
      case neg =>
        obtain rfl : k = 21 := by omega
        go_wp2_with fail
        go_ret
        exact ⟨ret_int (hS.out.trans E.out), B1.out⟩
      case pos =>
      have hq : (k : Int) < 21 := by omega
      obtain ⟨z, hz⟩ : ∃ z, z = cAt C k := ⟨_, rfl⟩
      have d0 : v1.cell? ⟨g, k, none⟩ = some (.int .i64 z) := HCELL.out k z (by rw [hz]; exact cAt_some (by rw [HL.out]; omega))
      have hnx := cS_next HOK.out hlt
      rw [← hS.out, ← hz] at hnx
      obtain ⟨n0, n1, n2⟩ := hnx
      have HS2 : Hid (a + z = cS C (k + 1)) := by show _ = _; rw [cS, ← hS.out, ← hz]
      clear hz hS
      go_wp2_with fail
      go_round
      case rel => exact ⟨k + 1, _, by omega, by go_num, rfl, HS2⟩
      case measure => simp [intOf]; omega

set_option maxRecDepth 100000 in
set_option maxHeartbeats 4000000 in
theorem icnt_any (lo hi n : Nat) (v : Value) (t : Int) (C : List Int) (w : World) (hr : Row 1 w lo hi v n C) (hh : hi ≤ w.heap.size) (ht : I64 t) :
    Calls Try.prog 22 #[.agg #[v, .int .i64 t]] w fun e w' => e = .returned (.int .i64 (cntV C t)) ∧ Below w.heap.size w w' := by
  have HR := Lib.hid hr
  have hl : C.length = n := by have := hr.1; omega
  obtain ⟨ad, cp, rfl, hn, hc⟩ := hr.opened
  clear hr
  cases hk : hkB C t with
  | false =>
    rw [cnt_no hk]
    clear hc hl
    go_enter Try.func22, Try.ntmps22
    go_wp2_with fail
    go_at_call 32
    refine (ihok_any lo hi n _ t C _ (HR.out.below (B := w.heap.size) (by go_grown) hh) (by simp; omega) ht).mono ?_
    rw [hk]
    rintro e v1 ⟨rfl, hb1⟩
    have sz1 : w.heap.size + 1 ≤ v1.heap.size := by have hh := hb1.size; simp at hh; omega
    have st1 : Below w.heap.size w v1 := Below.trans (by go_grown) (hb1.mono (by simp))
    have c1_0 : v1.cell? ⟨w.heap.size, 0, none⟩ = some (.slice ad n cp) := by rw [(bcell hb1).1 _ _ (by simp)]; first | (rw [new_at (by simp)]; rfl) | simp
    have c1_1 : v1.cell? ⟨w.heap.size, 1, none⟩ = some (.int .i64 t) := by rw [(bcell hb1).1 _ _ (by simp)]; first | (rw [new_at (by simp)]; rfl) | simp
    have B1 : Hid (Below w.heap.size w v1) := st1
    have d1_0 : w.heap.size < v1.heap.size := by omega
    have e1_0 : w.heap.size ≠ v1.heap.size := by omega
    clear st1 hb1
    go_wp2_with fail
    go_ret
    exact ⟨rfl, B1.out⟩
  | true =>
    obtain ⟨h21, hok, _⟩ := hkB_iff.1 hk
    have HOK := Lib.hid hok
    obtain rfl : n = 21 := by omega
    obtain ⟨g, rfl, hg, hcell⟩ := hc (by omega)
    have HCL := Lib.hid hcell
    have HL := Lib.hid hl
    have E : Hid (cS C 21 = cntV C t) := (cnt_yes hk).symm
    clear hc hcell hok h21 hl
    go_enter Try.func22, Try.ntmps22
    go_wp2_with fail
    go_at_call 32
    refine (ihok_any lo hi 21 _ t C _ (HR.out.below (B := w.heap.size) (by go_grown) hh) (by simp; omega) ht).mono ?_
    rw [hk]
    rintro e v1 ⟨rfl, hb1⟩
    have sz1 : w.heap.size + 1 ≤ v1.heap.size := by have hh := hb1.size; simp at hh; omega
    have st1 : Below w.heap.size w v1 := Below.trans (by go_grown) (hb1.mono (by simp))
    have c1_0 : v1.cell? ⟨w.heap.size, 0, none⟩ = some (.slice (some ⟨g, 0, none⟩) 21 cp) := by rw [(bcell hb1).1 _ _ (by simp)]; first | (rw [new_at (by simp)]; rfl) | simp
    have c1_1 : v1.cell? ⟨w.heap.size, 1, none⟩ = some (.int .i64 t) := by rw [(bcell hb1).1 _ _ (by simp)]; first | (rw [new_at (by simp)]; rfl) | simp
    have B1 : Hid (Below w.heap.size w v1) := st1
    have d1_0 : w.heap.size < v1.heap.size := by omega
    have e1_0 : w.heap.size ≠ v1.heap.size := by omega
    clear st1 hb1
    have HCELL : Hid (∀ q z, C[q]? = some z → v1.cell? ⟨g, q, none⟩ = some (.int .i64 z)) := fun q z hz => by rw [B1.out.cell (p := ⟨g, q, none⟩) (by show g < _; omega)]; exact HCL.out q z hz
    go_wp2_with fail
    go_loop [3, 12] (fun s i => ∃ (k : Nat) (a : Int), k ≤ 21 ∧ i = .int .i64 (k : Int) ∧ s = .int .i64 a ∧ Hid (a = cS C k)) (fun _ i => 21 - (intOf i).toNat)
    case atStart => exact ⟨0, 0, by omega, rfl, rfl, Lib.hid rfl⟩
    case round =>
      obtain ⟨k, a, hk', rfl, rfl, hS⟩ := hrel
      by_cases hlt : k < 21
      case neg =>
        obtain rfl : k = 21 := by omega
        go_wp2_with fail
        go_ret
        exact ⟨ret_int (hS.out.trans E.out), B1.out⟩
      case pos =>
      have hq : (k : Int) < 21 := by omega
      obtain ⟨z, hz⟩ : ∃ z, z = cAt C k := ⟨_, rfl⟩
      have d0 : v1.cell? ⟨g, k, none⟩ = some (.int .i64 z) := HCELL.out k z (by rw [hz]; exact cAt_some (by rw [HL.out]; omega))
      have hnx := cS_next HOK.out hlt
      rw [← hS.out, ← hz] at hnx
      obtain ⟨n0, n1, n2⟩ := hnx
      have HS2 : Hid (a + z = cS C (k + 1)) := by show _ = _; rw [cS, ← hS.out, ← hz]
      clear hz hS
      go_wp2_with fail
      go_round
      case rel => exact ⟨k + 1, _, by omega, by go_num, rfl, HS2⟩
      case measure => simp [intOf]; omega

set_option maxRecDepth 100000 in
set_option maxHeartbeats 4000000 in
theorem smean_any (lo hi n : Nat) (v : Value) (t : Int) (C : List Int) (w : World) (hr : Row 1 w lo hi v n C) (hh : hi ≤ w.heap.size) (ht : I64 t) :
    Calls Try.prog 44 #[.agg #[v, .int .i64 t]] w fun e w' => e = .returned (.int .i64 (meanV C t)) ∧ Below w.heap.size w w' := by
  have HR := Lib.hid hr
  obtain ⟨ad, cp, rfl⟩ := hr.slice
  clear hr
  unfold meanV
  have hin := cnt_in C t
  have hs : 1 ≤ cntV C t → 0 ≤ t ∧ t ≤ 21000000000000 := fun h => by
    cases hk : hkB C t with
    | false => rw [cnt_no hk] at h; omega
    | true => exact hk_sum hk
  obtain ⟨m, hm⟩ : ∃ m, m = cntV C t := ⟨_, rfl⟩
  rw [← hm] at hin hs ⊢
  have HM := Lib.hid hm
  clear hm
  obtain ⟨i0, i1⟩ := hin
  by_cases h1 : m < 1
  · rw [if_pos h1]
    clear hs
    go_enter Try.func44, Try.ntmps44
    go_wp2_with fail
    go_at_call 42
    refine (scnt_any lo hi n _ t C _ (HR.out.below (B := w.heap.size) (by go_grown) hh) (by simp; omega) ht).mono ?_
    rw [← HM.out]
    rintro e v1 ⟨rfl, hb1⟩
    have sz1 : w.heap.size + 1 ≤ v1.heap.size := by have hh := hb1.size; simp at hh; omega
    have st1 : Below w.heap.size w v1 := Below.trans (by go_grown) (hb1.mono (by simp))
    have c1_0 : v1.cell? ⟨w.heap.size, 0, none⟩ = some (.slice ad n cp) := by rw [(bcell hb1).1 _ _ (by simp)]; first | (rw [new_at (by simp)]; rfl) | simp
    have c1_1 : v1.cell? ⟨w.heap.size, 1, none⟩ = some (.int .i64 t) := by rw [(bcell hb1).1 _ _ (by simp)]; first | (rw [new_at (by simp)]; rfl) | simp
    have B1 : Hid (Below w.heap.size w v1) := st1
    have d1_0 : w.heap.size < v1.heap.size := by omega
    have e1_0 : w.heap.size ≠ v1.heap.size := by omega
    clear st1 hb1
    go_wp2_with fail
    go_ret
    exact ⟨rfl, B1.out⟩
  · rw [if_neg h1]
    obtain ⟨t0, t1⟩ := hs (by omega)
    have m1 : 1 ≤ m := by omega
    clear hs
    go_enter Try.func44, Try.ntmps44
    go_wp2_with fail
    go_at_call 42
    refine (scnt_any lo hi n _ t C _ (HR.out.below (B := w.heap.size) (by go_grown) hh) (by simp; omega) ht).mono ?_
    rw [← HM.out]
    rintro e v1 ⟨rfl, hb1⟩
    have sz1 : w.heap.size + 1 ≤ v1.heap.size := by have hh := hb1.size; simp at hh; omega
    have st1 : Below w.heap.size w v1 := Below.trans (by go_grown) (hb1.mono (by simp))
    have c1_0 : v1.cell? ⟨w.heap.size, 0, none⟩ = some (.slice ad n cp) := by rw [(bcell hb1).1 _ _ (by simp)]; first | (rw [new_at (by simp)]; rfl) | simp
    have c1_1 : v1.cell? ⟨w.heap.size, 1, none⟩ = some (.int .i64 t) := by rw [(bcell hb1).1 _ _ (by simp)]; first | (rw [new_at (by simp)]; rfl) | simp
    have B1 : Hid (Below w.heap.size w v1) := st1
    have d1_0 : w.heap.size < v1.heap.size := by omega
    have e1_0 : w.heap.size ≠ v1.heap.size := by omega
    clear st1 hb1
    go_wp2_with fail
    go_ret
    exact ⟨rfl, B1.out⟩

set_option maxRecDepth 100000 in
set_option maxHeartbeats 4000000 in
theorem imean_any (lo hi n : Nat) (v : Value) (t : Int) (C : List Int) (w : World) (hr : Row 1 w lo hi v n C) (hh : hi ≤ w.heap.size) (ht : I64 t) :
    Calls Try.prog 21 #[.agg #[v, .int .i64 t]] w fun e w' => e = .returned (.int .i64 (meanV C t)) ∧ Below w.heap.size w w' := by
  have HR := Lib.hid hr
  obtain ⟨ad, cp, rfl⟩ := hr.slice
  clear hr
  unfold meanV
  have hin := cnt_in C t
  have hs : 1 ≤ cntV C t → 0 ≤ t ∧ t ≤ 21000000000000 := fun h => by
    cases hk : hkB C t with
    | false => rw [cnt_no hk] at h; omega
    | true => exact hk_sum hk
  obtain ⟨m, hm⟩ : ∃ m, m = cntV C t := ⟨_, rfl⟩
  rw [← hm] at hin hs ⊢
  have HM := Lib.hid hm
  clear hm
  obtain ⟨i0, i1⟩ := hin
  by_cases h1 : m < 1
  · rw [if_pos h1]
    clear hs
    go_enter Try.func21, Try.ntmps21
    go_wp2_with fail
    go_at_call 22
    refine (icnt_any lo hi n _ t C _ (HR.out.below (B := w.heap.size) (by go_grown) hh) (by simp; omega) ht).mono ?_
    rw [← HM.out]
    rintro e v1 ⟨rfl, hb1⟩
    have sz1 : w.heap.size + 1 ≤ v1.heap.size := by have hh := hb1.size; simp at hh; omega
    have st1 : Below w.heap.size w v1 := Below.trans (by go_grown) (hb1.mono (by simp))
    have c1_0 : v1.cell? ⟨w.heap.size, 0, none⟩ = some (.slice ad n cp) := by rw [(bcell hb1).1 _ _ (by simp)]; first | (rw [new_at (by simp)]; rfl) | simp
    have c1_1 : v1.cell? ⟨w.heap.size, 1, none⟩ = some (.int .i64 t) := by rw [(bcell hb1).1 _ _ (by simp)]; first | (rw [new_at (by simp)]; rfl) | simp
    have B1 : Hid (Below w.heap.size w v1) := st1
    have d1_0 : w.heap.size < v1.heap.size := by omega
    have e1_0 : w.heap.size ≠ v1.heap.size := by omega
    clear st1 hb1
    go_wp2_with fail
    go_ret
    exact ⟨rfl, B1.out⟩
  · rw [if_neg h1]
    obtain ⟨t0, t1⟩ := hs (by omega)
    have m1 : 1 ≤ m := by omega
    clear hs
    go_enter Try.func21, Try.ntmps21
    go_wp2_with fail
    go_at_call 22
    refine (icnt_any lo hi n _ t C _ (HR.out.below (B := w.heap.size) (by go_grown) hh) (by simp; omega) ht).mono ?_
    rw [← HM.out]
    rintro e v1 ⟨rfl, hb1⟩
    have sz1 : w.heap.size + 1 ≤ v1.heap.size := by have hh := hb1.size; simp at hh; omega
    have st1 : Below w.heap.size w v1 := Below.trans (by go_grown) (hb1.mono (by simp))
    have c1_0 : v1.cell? ⟨w.heap.size, 0, none⟩ = some (.slice ad n cp) := by rw [(bcell hb1).1 _ _ (by simp)]; first | (rw [new_at (by simp)]; rfl) | simp
    have c1_1 : v1.cell? ⟨w.heap.size, 1, none⟩ = some (.int .i64 t) := by rw [(bcell hb1).1 _ _ (by simp)]; first | (rw [new_at (by simp)]; rfl) | simp
    have B1 : Hid (Below w.heap.size w v1) := st1
    have d1_0 : w.heap.size < v1.heap.size := by omega
    have e1_0 : w.heap.size ≠ v1.heap.size := by omega
    clear st1 hb1
    go_wp2_with fail
    go_ret
    exact ⟨rfl, B1.out⟩

end Go.Proofs.Ytcchoiobdcaboaa
