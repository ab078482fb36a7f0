/- The oldest value that an archive tells: both sides. -/
import Derived.Test.YtnaifkmganngfaaMb
import Derived.Test.YtnaifkmganngfaaS5
namespace Go.Proofs.Ytnaifkmganngfaa
open Go.RowKit


set_option maxRecDepth 100000 in
set_option maxHeartbeats 4000000 in
theorem iold_any (lo hi n : Nat) (v : Value) (t : Int) (D : List (List Rw)) (w : World) (hr : KRow w lo hi v n D) (hh : hi ≤ w.heap.size) :
    Calls Try.prog 16 #[.agg #[v, .int .i64 t]] w fun e w' => e = .returned (.int .i64 (oldV t D)) ∧ Below w.heap.size w w' := by
  obtain ⟨ad, cp, rfl⟩ := hr.slice
  have hm := hr.len
  have HD := Lib.hid hr.2
  have HR := Lib.hid hr
  clear hr
  cases hv : arB t D with
  | false =>
    rw [oldV_no hv]
    go_enter Try.func16, Try.ntmps16
    go_wp2_with fail
    go_at_call 24
    refine (iaok_any lo hi n _ t D _ (HR.out.below (B := w.heap.size) (by go_grown) hh) (by simp <;> omega)).mono ?_
    rw [hv]
    rintro e w2 ⟨rfl, hb2⟩
    have HB2 : Hid (Below w.heap.size w w2) := Below.trans (by go_grown) (hb2.mono (by simp <;> omega))
    clear hb2
    go_wp2_with fail
    go_ret
    exact ⟨rfl, HB2.out⟩
  | true =>
  have HP := Lib.hid (arB_iff.1 hv)
  obtain rfl : n = 3 := by rw [← HD.out]; exact HP.out.1
  go_enter Try.func16, Try.ntmps16
  go_wp2_with fail
  go_wp2_with fail
  go_at_call 24
  refine (iaok_any lo hi 3 _ t D _ (HR.out.below (B := w.heap.size) (by go_grown) hh) (by simp <;> omega)).mono ?_
  rw [hv]
  rintro e v11 ⟨rfl, hb11⟩
  have sz11 : w.heap.size + 1 ≤ v11.heap.size := by have hh := hb11.size; simp at hh; omega
  have st11 : Below w.heap.size w v11 := Below.trans (by go_grown) (hb11.mono (by simp))
  have c11_0 : v11.cell? ⟨w.heap.size, 0, none⟩ = some (.slice ad 3 cp) := by rw [(bcell hb11).1 _ _ (by simp)]; first | (rw [new_at (by simp)]; rfl) | simp
  have c11_1 : v11.cell? ⟨w.heap.size, 1, none⟩ = some (.int .i64 t) := by rw [(bcell hb11).1 _ _ (by simp)]; first | (rw [new_at (by simp)]; rfl) | simp
  have B11 : Hid (Below w.heap.size w v11) := st11
  have d11_0 : w.heap.size < v11.heap.size := by omega
  have e11_0 : w.heap.size ≠ v11.heap.size := by omega
  clear st11 hb11
  have RQ : Hid (KRow v11 lo hi (.slice ad 3 cp) 3 D) := HR.out.below B11.out hh
  have hhw : hi ≤ v11.heap.size := by omega
  have HC := Lib.hid c11_0
  go_wp2_with fail
  go_loopw [3, 12] (fun o i wr => ∃ j : Nat, j ≤ 3 ∧ i = .int .i64 (j : Int) ∧ o = .int .i64 (olk D j) ∧ v11 = wr) (fun _ i _ => 3 - (intOf i).toNat)
  case atStart => exact ⟨0, Nat.zero_le _, rfl, rfl, by first | rfl | trivial⟩
  case round =>
    obtain ⟨j, hj, rfl, rfl, rfl⟩ := hrel
    by_cases hlt : j < 3
    case neg =>
      obtain rfl : j = 3 := by omega
      have He : Hid (oldV t D = olk D 3) := oldV_all HP.out
      go_wp2
      go_ret
      exact ⟨by rw [He.out]; rfl, B11.out⟩
    case pos =>
    obtain ⟨l, hl⟩ : ∃ l, D[j]? = some l := ⟨_, List.getElem?_eq_getElem (by rw [HD.out]; exact hlt)⟩
    obtain ⟨G, x, y, rfl, _, hG, e1, hrow⟩ := RQ.out.cell hl
    have q0 : (0 : Int) ≤ (j : Int) := by omega
    have q1 : (j : Int) < 3 := by omega
    have hs := olk_succ hl
    have hi0 := olk_in HP.out j
    cases l with
    | nil =>
      have hs2 : Hid (olk D (j + 1) = olk D j) := hs
      simp only [List.length_nil] at e1
      clear hs hrow hl
      go_wp2
      go_roundw
      case rel => exact ⟨j + 1, by omega, by go_num, by rw [hs2.out], by first | rfl | trivial⟩
      case measure => simp [intOf]; omega
    | cons r l =>
      have hf := first_in HP.out hl
      obtain ⟨m, hm9⟩ : ∃ m, m = l.length := ⟨_, rfl⟩
      simp only [List.length_cons] at e1 hrow
      rw [← hm9] at e1 hrow
      have hmm : m + 1 ≤ 1100000 := by obtain ⟨_, _, _, h, _⟩ := hrow.opened; exact h
      obtain ⟨g, rfl, _, hg, c0, _⟩ := row5_cell (i := 0) hrow rfl
      obtain ⟨x0, x1, x2, x3, x4⟩ := r
      rw [olf_eq] at hs
      simp only at c0 hs hf
      rw [Nat.zero_mul] at c0
      have m0 : (0 : Int) < ((m + 1 : Nat) : Int) := by omega
      have m1 : (0 : Int) < (m : Int) + 1 := by omega
      obtain ⟨o, ho⟩ : ∃ o, o = olk D j := ⟨_, rfl⟩
      rw [← ho] at hs hi0 ⊢
      clear hrow hl hm9 ho
      by_cases h1 : o < 0
      · have d1 : decide (o < 0) = true := decide_eq_true h1
        have hs2 : Hid (olk D (j + 1) = x0) := by show _ = _; rw [hs, if_pos (.inl h1)]
        clear hs
        go_wp2
        go_roundw
        case rel => exact ⟨j + 1, by omega, by go_num, by rw [hs2.out], by first | rfl | trivial⟩
        case measure => simp [intOf]; omega
      · have d1 : decide (o < 0) = false := decide_eq_false h1
        by_cases h2 : x0 < o
        · have d2 : decide (x0 < o) = true := decide_eq_true h2
          have hs2 : Hid (olk D (j + 1) = x0) := by show _ = _; rw [hs, if_pos (.inr h2)]
          clear hs
          go_wp2
          go_roundw
          case rel => exact ⟨j + 1, by omega, by go_num, by rw [hs2.out], by first | rfl | trivial⟩
          case measure => simp [intOf]; omega
        · have d2 : decide (x0 < o) = false := decide_eq_false h2
          have hs2 : Hid (olk D (j + 1) = o) := by show _ = _; rw [hs, if_neg (by omega)]
          clear hs
          go_wp2
          go_roundw
          case rel => exact ⟨j + 1, by omega, by go_num, by rw [hs2.out], by first | rfl | trivial⟩
          case measure => simp [intOf]; omega

theorem olm {t : Int} {D : List (List Rw)} (h : arP t D) (ht : t ≠ 0) {j : Nat} {l : List Rw} (hl : D[j]? = some l) {a : Int} (ha : a = if j = 0 then t else olk D j) :
    (match l with | [] => a | r :: _ => if r.1 < a then r.1 else a) = olk D (j + 1) := by
  rw [olk_succ hl]
  cases j with
  | zero =>
    obtain ⟨r, l', h0, h1, h2⟩ := head0 h ht
    rw [hl] at h0
    obtain rfl := Option.some.inj h0
    simp only [if_pos] at ha
    subst ha
    simp only
    rw [if_pos h2]
    simp [olk, olf]
  | succ j =>
    have h1 := olk_pos h ht j
    rw [if_neg (by omega)] at ha
    subst ha
    cases l with
    | nil => rfl
    | cons r l =>
      simp only
      rw [olf_eq]
      by_cases h2 : r.1 < olk D (j + 1)
      · rw [if_pos h2, if_pos (.inr h2)]
      · rw [if_neg h2, if_neg (by omega)]
set_option maxRecDepth 100000 in
set_option maxHeartbeats 4000000 in
theorem sold_any (lo hi n : Nat) (v : Value) (t : Int) (D : List (List Rw)) (w : World) (hr : KRow w lo hi v n D) (hh : hi ≤ w.heap.size) :
    Calls Try.prog 17 #[.agg #[v, .int .i64 t]] w fun e w' => e = .returned (.int .i64 (oldV t D)) ∧ Below w.heap.size w w' := by
  obtain ⟨ad, cp, rfl⟩ := hr.slice
  have hm := hr.len
  have HD := Lib.hid hr.2
  have HR := Lib.hid hr
  clear hr
  cases hv : arB t D with
  | false =>
    rw [oldV_no hv]
    go_enter Try.func17, Try.ntmps17
    go_wp2_with fail
    go_at_call 15
    refine (saok_any lo hi n _ t D _ (HR.out.below (B := w.heap.size) (by go_grown) hh) (by simp <;> omega)).mono ?_
    rw [hv]
    rintro e w2 ⟨rfl, hb2⟩
    have HB2 : Hid (Below w.heap.size w w2) := Below.trans (by go_grown) (hb2.mono (by simp <;> omega))
    clear hb2
    go_wp2_with fail
    go_ret
    exact ⟨rfl, HB2.out⟩
  | true =>
  have HP := Lib.hid (arB_iff.1 hv)
  obtain rfl : n = 3 := by rw [← HD.out]; exact HP.out.1
  by_cases ht : t = 0
  case pos =>
    subst ht
    have He : Hid (oldV 0 D = -1) := by show _ = _; rw [oldV_all HP.out, olk_nil HP.out rfl]
    go_enter Try.func17, Try.ntmps17
    go_wp2_with fail
    go_wp2_with fail
    go_at_call 15
    refine (saok_any lo hi 3 _ 0 D _ (HR.out.below (B := w.heap.size) (by go_grown) hh) (by simp <;> omega)).mono ?_
    rw [hv]
    rintro e v11 ⟨rfl, hb11⟩
    have sz11 : w.heap.size + 1 ≤ v11.heap.size := by have hh := hb11.size; simp at hh; omega
    have st11 : Below w.heap.size w v11 := Below.trans (by go_grown) (hb11.mono (by simp))
    have c11_0 : v11.cell? ⟨w.heap.size, 0, none⟩ = some (.slice ad 3 cp) := by rw [(bcell hb11).1 _ _ (by simp)]; first | (rw [new_at (by simp)]; rfl) | simp
    have c11_1 : v11.cell? ⟨w.heap.size, 1, none⟩ = some (.int .i64 0) := by rw [(bcell hb11).1 _ _ (by simp)]; first | (rw [new_at (by simp)]; rfl) | simp
    have B11 : Hid (Below w.heap.size w v11) := st11
    have d11_0 : w.heap.size < v11.heap.size := by omega
    have e11_0 : w.heap.size ≠ v11.heap.size := by omega
    clear st11 hb11
    go_wp2_with fail
    go_ret
    exact ⟨by rw [He.out]; rfl, B11.out⟩
  case neg =>
  have t0 : (t == 0) = false := by simp [ht]
  go_enter Try.func17, Try.ntmps17
  go_wp2_with fail
  go_wp2_with fail
  go_at_call 15
  refine (saok_any lo hi 3 _ t D _ (HR.out.below (B := w.heap.size) (by go_grown) hh) (by simp <;> omega)).mono ?_
  rw [hv]
  rintro e v11 ⟨rfl, hb11⟩
  have sz11 : w.heap.size + 1 ≤ v11.heap.size := by have hh := hb11.size; simp at hh; omega
  have st11 : Below w.heap.size w v11 := Below.trans (by go_grown) (hb11.mono (by simp))
  have c11_0 : v11.cell? ⟨w.heap.size, 0, none⟩ = some (.slice ad 3 cp) := by rw [(bcell hb11).1 _ _ (by simp)]; first | (rw [new_at (by simp)]; rfl) | simp
  have c11_1 : v11.cell? ⟨w.heap.size, 1, none⟩ = some (.int .i64 t) := by rw [(bcell hb11).1 _ _ (by simp)]; first | (rw [new_at (by simp)]; rfl) | simp
  have B11 : Hid (Below w.heap.size w v11) := st11
  have d11_0 : w.heap.size < v11.heap.size := by omega
  have e11_0 : w.heap.size ≠ v11.heap.size := by omega
  clear st11 hb11
  have RQ : Hid (KRow v11 lo hi (.slice ad 3 cp) 3 D) := HR.out.below B11.out hh
  have hhw : hi ≤ v11.heap.size := by omega
  have HC := Lib.hid c11_0
  have HT := Lib.hid ht
  clear ht
  go_wp2_with fail
  clear t0
  go_loopw [3, 4] (fun o i wr => ∃ (j : Nat) (a : Int), j ≤ 3 ∧ i = .int .i64 (j : Int) ∧ o = .int .i64 a ∧ Hid (a = if j = 0 then t else olk D j) ∧ v11 = wr) (fun _ i _ => 3 - (intOf i).toNat)
  case atStart => exact ⟨0, t, Nat.zero_le _, rfl, rfl, rfl, by first | rfl | trivial⟩
  case round =>
    obtain ⟨j, o, hj, rfl, rfl, hO, rfl⟩ := hrel
    by_cases hlt : j < 3
    case neg =>
      obtain rfl : j = 3 := by omega
      have He : Hid (oldV t D = o) := by show _ = _; rw [oldV_all HP.out, hO.out]; rfl
      go_wp2
      go_ret
      exact ⟨by rw [He.out]; rfl, B11.out⟩
    case pos =>
    obtain ⟨l, hl⟩ : ∃ l, D[j]? = some l := ⟨_, List.getElem?_eq_getElem (by rw [HD.out]; exact hlt)⟩
    obtain ⟨G, x, y, rfl, _, hG, e1, hrow⟩ := RQ.out.cell hl
    have q0 : (0 : Int) ≤ (j : Int) := by omega
    have q1 : (j : Int) < 3 := by omega
    have hs := olm HP.out HT.out hl hO.out
    clear hO
    cases l with
    | nil =>
      have hs2 : Hid (o = olk D (j + 1)) := hs
      simp only [List.length_nil] at e1
      clear hs hrow hl
      go_wp2
      go_roundw
      case rel => exact ⟨j + 1, o, by omega, by go_num, rfl, (by show _ = _; rw [if_neg (by omega)]; exact hs2.out), by first | rfl | trivial⟩
      case measure => simp [intOf]; omega
    | cons r l =>
      obtain ⟨m, hm9⟩ : ∃ m, m = l.length := ⟨_, rfl⟩
      simp only [List.length_cons] at e1 hrow
      rw [← hm9] at e1 hrow
      have hmm : m + 1 ≤ 1100000 := by obtain ⟨_, _, _, h, _⟩ := hrow.opened; exact h
      obtain ⟨g, rfl, _, hg, c0, _⟩ := row5_cell (i := 0) hrow rfl
      obtain ⟨x0, x1, x2, x3, x4⟩ := r
      simp only at c0 hs
      rw [Nat.zero_mul] at c0
      have m0 : (0 : Int) < ((m + 1 : Nat) : Int) := by omega
      have m1 : (0 : Int) < (m : Int) + 1 := by omega
      clear hrow hl hm9
      by_cases h2 : x0 < o
      · have d2 : decide (x0 < o) = true := decide_eq_true h2
        have hs2 : Hid (x0 = olk D (j + 1)) := by show _ = _; rw [← hs, if_pos h2]
        clear hs
        go_wp2
        go_roundw
        case rel => exact ⟨j + 1, x0, by omega, by go_num, rfl, (by show _ = _; rw [if_neg (by omega)]; exact hs2.out), by first | rfl | trivial⟩
        case measure => simp [intOf]; omega
      · have d2 : decide (x0 < o) = false := decide_eq_false h2
        have hs2 : Hid (o = olk D (j + 1)) := by show _ = _; rw [← hs, if_neg h2]
        clear hs
        go_wp2
        go_roundw
        case rel => exact ⟨j + 1, o, by omega, by go_num, rfl, (by show _ = _; rw [if_neg (by omega)]; exact hs2.out), by first | rfl | trivial⟩
        case measure => simp [intOf]; omega

end Go.Proofs.Ytnaifkmganngfaa
