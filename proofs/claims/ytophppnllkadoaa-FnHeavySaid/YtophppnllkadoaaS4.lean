/- The first place of a key; whether a list is sorted, as the program asks. -/
import Derived.Test.YtophppnllkadoaaS1
namespace Go.Proofs.Ytophppnllkadoaa
open Go.RowKit


set_option maxHeartbeats 1000000 in
theorem clos_any (p : Nat) (a b c x : Int) (w : World) (hp : p < w.heap.size) (h0 : w.cell? ⟨p, 0, none⟩ = some (.int .i64 x)) :
    Calls Try.prog 97 #[.agg #[.int .i64 a, .int .i64 b, .int .i64 c], .pointer (some ⟨p, 0, none⟩)] w fun e w' => e = .returned (.bool (decide (a = x))) ∧ Below w.heap.size w w' := by
  have k0 : (w.alloc (.cells #[.int .i64 a, .int .i64 b, .int .i64 c] 43)).cell? ⟨p, 0, none⟩ = some (.int .i64 x) := by rw [old_box hp]; exact h0
  have n0 : p ≠ w.heap.size := by omega
  by_cases h : a = x
  · have e1 : (a == x) = true := by simp [h]
    rw [decide_eq_true h]
    clear h
    go_enter Try.func97, Try.ntmps97
    go_wp2
    go_ret
    exact ⟨rfl, by go_grown⟩
  · have e1 : (a == x) = false := by simp [h]
    rw [decide_eq_false h]
    clear h
    go_enter Try.func97, Try.ntmps97
    go_wp2
    go_ret
    exact ⟨rfl, by go_grown⟩

set_option maxRecDepth 100000 in
set_option maxHeartbeats 4000000 in
theorem index_any (p : Nat) (lo hi n : Nat) (v : Value) (L : List Hv) (x : Int) (w : World) (hp : p < w.heap.size) (h0 : w.cell? ⟨p, 0, none⟩ = some (.int .i64 x)) (hL : L.length = n) (hr : Row 3 w lo hi v n (flat L)) (hh : hi ≤ w.heap.size) :
    Calls Try.prog 96 #[v, .func (.func 97) #[] #[.pointer (some ⟨p, 0, none⟩)]] w fun e w' => e = .returned (.int .i64 (fndI L x)) ∧ Below w.heap.size w w' := by
  obtain ⟨ad, cp, rfl, hn, hop⟩ := hr.opened
  have HL := Lib.hid hL
  have HC := Lib.hid hop
  clear hL hop hr
  go_enter Try.func96, Try.ntmps96
  go_wp2
  go_loopw [8] (fun i wr => ∃ k : Nat, k ≤ n ∧ i = .int .i64 (k : Int) ∧ Hid (∀ (j : Nat) (e : Hv), j < k → L[j]? = some e → e.1 ≠ x) ∧ Hid (Below w.heap.size w wr)) (fun i _ => n - (intOf i).toNat)
  case atStart => exact ⟨0, Nat.zero_le _, rfl, fun j e hj => absurd hj (Nat.not_lt_zero _), Below.refl _ _⟩
  case round =>
    obtain ⟨k, hk, rfl, hF, hB⟩ := hrel
    by_cases hlt : k < n
    case neg =>
      obtain rfl : k = n := by omega
      have hge : ¬ ((k : Int) < (k : Int)) := by omega
      have HI : Hid (fndI L x = -1) := by
        show _ = _
        unfold fndI
        rw [fndN_none L x (fun j q hq => hF.out j q (by rw [← HL.out]; exact lt_of_at hq) hq), if_neg (Nat.lt_irrefl _)]
      go_wp2
      go_ret
      exact ⟨by rw [HI.out]; rfl, hB.out⟩
    case pos =>
    obtain ⟨g, rfl, hg, hcell⟩ := HC.out (by omega)
    obtain ⟨a, b, c, hrk⟩ := at_of_lt (L := L) (i := k) (by rw [HL.out]; exact hlt)
    obtain ⟨r0, r1, r2⟩ := flat_at L k _ hrk
    have z0 : wr.cell? ⟨g, k * 3, none⟩ = some (.int .i64 a) := by rw [hB.out.cell (p := ⟨g, k * 3, none⟩) (by show g < _; omega)]; exact hcell _ _ r0
    have z1 : wr.cell? ⟨g, k * 3 + 1, none⟩ = some (.int .i64 b) := by rw [hB.out.cell (p := ⟨g, k * 3 + 1, none⟩) (by show g < _; omega)]; exact hcell _ _ r1
    have z2 : wr.cell? ⟨g, k * 3 + 2, none⟩ = some (.int .i64 c) := by rw [hB.out.cell (p := ⟨g, k * 3 + 2, none⟩) (by show g < _; omega)]; exact hcell _ _ r2
    have HK := Lib.hid hrk
    have k0 : wr.cell? ⟨p, 0, none⟩ = some (.int .i64 x) := by rw [hB.out.cell (p := ⟨p, 0, none⟩) hp]; exact h0
    have hpw : p < wr.heap.size := Nat.lt_of_lt_of_le hp hB.out.size
    have q0 : (0 : Int) ≤ (k : Int) := by omega
    have q1 : (k : Int) < (n : Int) := by omega
    clear r0 r1 r2 hrk hcell
    by_cases hP : a = x
    · have HI : Hid (fndI L x = (k : Int)) := by
        show _ = _
        unfold fndI
        rw [fndN_uniq L x k _ HK.out hP (fun j q hj hq => hF.out j q hj hq), if_pos (by rw [HL.out]; exact hlt)]
      have hPd : decide (a = x) = true := decide_eq_true hP
      clear hP
      go_wp2_with fail
      go_at_call 97
      refine (clos_any p a b c x wr hpw k0).mono ?_
      rw [hPd]
      rintro e w2 ⟨rfl, hb⟩
      have hB2 := chain hB.out hb
      clear hb
      go_wp2_with fail
      go_ret
      exact ⟨by rw [HI.out]; rfl, hB2⟩
    · have HF : Hid (∀ (j : Nat) (e : Hv), j < k + 1 → L[j]? = some e → e.1 ≠ x) := fun j e hj he => by
        by_cases ej : j = k
        · subst ej; rw [HK.out] at he; obtain rfl := Option.some.inj he; exact hP
        · exact hF.out j e (by omega) he
      have hPd : decide (a = x) = false := decide_eq_false hP
      clear hP
      go_wp2_with fail
      go_at_call 97
      refine (clos_any p a b c x wr hpw k0).mono ?_
      rw [hPd]
      rintro e w2 ⟨rfl, hb⟩
      have hB2 := Lib.hid (chain hB.out hb)
      clear hb hF hB
      go_wp2_with fail
      go_roundw
      case rel => exact ⟨k + 1, by omega, by go_num, HF, hB2⟩
      case measure => simp [intOf]; omega

set_option maxRecDepth 100000 in
set_option maxHeartbeats 4000000 in
theorem find_any (lo hi n : Nat) (v : Value) (L : List Hv) (x : Int) (w : World) (hL : L.length = n) (hr : Row 3 w lo hi v n (flat L)) (hh : hi ≤ w.heap.size) :
    Calls Try.prog 73 #[.agg #[v], .int .i64 x] w fun e w' => e = .returned (.int .i64 (fndI L x)) ∧ Below w.heap.size w w' := by
  obtain ⟨ad, cp, rfl⟩ := hr.slice
  have HR := Lib.hid hr
  clear hr
  go_enter Try.func73, Try.ntmps73
  go_wp2_with fail
  obtain ⟨q1, hq1⟩ : ∃ q, q = ((w.alloc (.cells #[.slice ad n cp] 38)).alloc (.cells #[.int .i64 x] 3)) := ⟨_, rfl⟩
  have hb1 : Below w.heap.size w q1 := by rw [hq1]; go_grown
  have sz1 : w.heap.size + 2 ≤ q1.heap.size := by rw [hq1]; simp
  have c1_0 : q1.cell? ⟨w.heap.size, 0, none⟩ = some (.slice ad n cp) := by rw [hq1, old_box (by simp <;> omega), new_at (by simp)]; rfl
  have c1_1 : q1.cell? ⟨w.heap.size + 1, 0, none⟩ = some (.int .i64 x) := by rw [hq1, new_at (by simp)]; rfl
  have B1 : Hid (Below w.heap.size w q1) := Lib.hid hb1
  rw [← hq1]
  have d1_0 : w.heap.size < q1.heap.size := by omega
  have e1_0 : w.heap.size ≠ q1.heap.size := by omega
  have d1_1 : w.heap.size + 1 < q1.heap.size := by omega
  have e1_1 : w.heap.size + 1 ≠ q1.heap.size := by omega
  clear hq1 hb1
  go_at_call 96
  refine (index_any _ lo hi n _ L x _ (by omega) c1_1 hL (HR.out.below B1.out hh) (by have := B1.out.size; omega)).mono ?_
  rintro e w2 ⟨rfl, hb⟩
  have hB2 := chain B1.out hb
  clear hb
  go_wp2_with fail
  go_ret
  exact ⟨rfl, hB2⟩

/-- No element stands ahead of the one before it. -/
def SrtP (L : List Hv) : Prop := ∀ (i : Nat) (p r : Hv), L[i]? = some p → L[i + 1]? = some r → ah r p = false
noncomputable def srtB (L : List Hv) : Bool := @decide (SrtP L) (Classical.propDecidable _)
theorem srtB_iff {L : List Hv} : srtB L = true ↔ SrtP L := by unfold srtB; exact @decide_eq_true_iff _ (Classical.propDecidable _)
theorem srtB_no {L : List Hv} {i : Nat} {p r : Hv} (hp : L[i]? = some p) (hr : L[i + 1]? = some r) (h : ah r p = true) : srtB L = false := by
  rw [Bool.eq_false_iff, ne_eq, srtB_iff]
  intro hs
  rw [hs i p r hp hr] at h
  simp at h

set_option maxRecDepth 100000 in
set_option maxHeartbeats 4000000 in
theorem issort_any (lo hi n : Nat) (v : Value) (L : List Hv) (w : World) (hL : L.length = n) (hr : Row 3 w lo hi v n (flat L)) (hh : hi ≤ w.heap.size) :
    Calls Try.prog 74 #[v, .func (.func 75) #[] #[]] w fun e w' => e = .returned (.bool (srtB L)) ∧ Below w.heap.size w w' := by
  obtain ⟨ad, cp, rfl, hn, hop⟩ := hr.opened
  have HL := Lib.hid hL
  have HC := Lib.hid hop
  clear hL hop hr
  go_enter Try.func74, Try.ntmps74
  go_wp2
  go_loopw [5] (fun i wr => ∃ k : Int, -1 ≤ k ∧ k < (n : Int) ∧ i = .int .i64 k ∧ Hid (∀ (j : Nat) (p r : Hv), k ≤ (j : Int) → L[j]? = some p → L[j + 1]? = some r → ah r p = false) ∧ Hid (Below w.heap.size w wr)) (fun i _ => (intOf i).toNat)
  case atStart => exact ⟨(n : Int) - 1, by omega, by omega, rfl, fun j p r hj hp hr => by have h1 := lt_of_at hr; rw [HL.out] at h1; omega, Below.refl _ _⟩
  case round =>
    obtain ⟨k, hk0, hk1, rfl, hF, hB⟩ := hrel
    by_cases hlt : 0 < k
    case neg =>
      have d1 : decide (0 < k) = false := decide_eq_false hlt
      have HI : Hid (srtB L = true) := by
        show _ = _
        rw [srtB_iff]
        exact fun i p r hp hr => hF.out i p r (by omega) hp hr
      go_wp2
      go_ret
      exact ⟨by rw [HI.out]; rfl, hB.out⟩
    case pos =>
    obtain ⟨m, rfl⟩ : ∃ m : Nat, k = ((m + 1 : Nat) : Int) := ⟨(k - 1).toNat, by omega⟩
    obtain ⟨g, rfl, hg, hcell⟩ := HC.out (by omega)
    obtain ⟨a, b, c, hrk⟩ := at_of_lt (L := L) (i := m + 1) (by rw [HL.out]; omega)
    obtain ⟨a', b', c', hrk'⟩ := at_of_lt (L := L) (i := m) (by rw [HL.out]; omega)
    obtain ⟨r0, r1, r2⟩ := flat_at L (m + 1) _ hrk
    obtain ⟨s0, s1, s2⟩ := flat_at L m _ hrk'
    have hBo := hB.out
    have hgs : g < wr.heap.size := by have := hBo.size; omega
    have z0 : wr.cell? ⟨g, (m + 1) * 3, none⟩ = some (.int .i64 a) := by rw [hBo.cell (p := ⟨g, (m + 1) * 3, none⟩) (by show g < _; omega)]; exact hcell _ _ r0
    have z1 : wr.cell? ⟨g, (m + 1) * 3 + 1, none⟩ = some (.int .i64 b) := by rw [hBo.cell (p := ⟨g, (m + 1) * 3 + 1, none⟩) (by show g < _; omega)]; exact hcell _ _ r1
    have z2 : wr.cell? ⟨g, (m + 1) * 3 + 2, none⟩ = some (.int .i64 c) := by rw [hBo.cell (p := ⟨g, (m + 1) * 3 + 2, none⟩) (by show g < _; omega)]; exact hcell _ _ r2
    have y0 : wr.cell? ⟨g, m * 3, none⟩ = some (.int .i64 a') := by rw [hBo.cell (p := ⟨g, m * 3, none⟩) (by show g < _; omega)]; exact hcell _ _ s0
    have y1 : wr.cell? ⟨g, m * 3 + 1, none⟩ = some (.int .i64 b') := by rw [hBo.cell (p := ⟨g, m * 3 + 1, none⟩) (by show g < _; omega)]; exact hcell _ _ s1
    have y2 : wr.cell? ⟨g, m * 3 + 2, none⟩ = some (.int .i64 c') := by rw [hBo.cell (p := ⟨g, m * 3 + 2, none⟩) (by show g < _; omega)]; exact hcell _ _ s2
    have HK := Lib.hid hrk
    have HK' := Lib.hid hrk'
    have q0 : (0 : Int) ≤ ((m + 1 : Nat) : Int) := by omega
    have q1 : ((m + 1 : Nat) : Int) < (n : Int) := by omega
    have q2 : (0 : Int) < ((m + 1 : Nat) : Int) := by omega
    have q3 : (0 : Int) ≤ (m : Int) := by omega
    have q4 : (m : Int) < (n : Int) := by omega
    have e1 : IntKind.i64.wrap (((m + 1 : Nat) : Int) - 1) = (m : Int) := by rw [IntWalk.i64_in _ (by omega)]; omega
    obtain ⟨j, hj⟩ : ∃ j, j = m + 1 := ⟨_, rfl⟩
    rw [← hj] at z0 z1 z2 q0 q1 q2 e1 ⊢
    have HJ := Lib.hid hj
    have d1 : decide ((0 : Int) < (j : Int)) = true := decide_eq_true q2
    clear r0 r1 r2 s0 s1 s2 hrk hrk' hcell hlt hk0 hk1 hj hBo
    have ho := ordV_lt a b a' b'
    have hoi := ordV_in a b a' b'
    generalize hov : ordV a b a' b' = ov at *
    have HOV := Lib.hid hov
    clear hov
    cases hP : ahP a b a' b' with
    | true =>
      rw [hP] at ho
      have HI : Hid (srtB L = false) := srtB_no (p := (a', b', c')) (r := (a, b, c)) HK'.out HK.out hP
      go_wp2_with fail
      go_region_held3 ((fun w' => w'.cell? ⟨g, j * 3, none⟩ = some (.int .i64 a) ∧ w'.cell? ⟨g, j * 3 + 1, none⟩ = some (.int .i64 b) ∧ w'.cell? ⟨g, j * 3 + 2, none⟩ = some (.int .i64 c) ∧ w'.cell? ⟨g, m * 3, none⟩ = some (.int .i64 a') ∧ w'.cell? ⟨g, m * 3 + 1, none⟩ = some (.int .i64 b') ∧ w'.cell? ⟨g, m * 3 + 2, none⟩ = some (.int .i64 c') ∧ wr.heap.size ≤ w'.heap.size ∧ Below wr.heap.size wr w')) (first | assumption | exact rr6_start z0 z1 z2 y0 y1 y2 | exact rr6_drew (by assumption) | exact rr6_keep (by omega) (by omega) (by omega) (by omega) (by omega) (by omega) (by assumption) (by assumption) | fail) ((go_at_call 75; refine (order_any a b c a' b' c' _).mono ?_; rw [HOV.out]; rintro e w2 ⟨rfl, hb⟩))
      all_goals
        go_wp2_with fail
        go_ret
        exact ⟨by rw [HI.out]; rfl, hB.out.trans ((rr6_out (by assumption)).2.mono (by have := hB.out.size; omega))⟩
    | false =>
      rw [hP] at ho
      have HF : Hid (∀ (i : Nat) (p r : Hv), (m : Int) ≤ (i : Int) → L[i]? = some p → L[i + 1]? = some r → ah r p = false) := fun i p r hi hp hr => by
        by_cases ej : i = m
        · subst ej; rw [HK'.out] at hp; rw [HK.out] at hr; obtain rfl := Option.some.inj hp; obtain rfl := Option.some.inj hr; exact hP
        · exact hF.out i p r (by have := HJ.out; omega) hp hr
      go_wp2_with fail
      go_region_held3 ((fun w' => w'.cell? ⟨g, j * 3, none⟩ = some (.int .i64 a) ∧ w'.cell? ⟨g, j * 3 + 1, none⟩ = some (.int .i64 b) ∧ w'.cell? ⟨g, j * 3 + 2, none⟩ = some (.int .i64 c) ∧ w'.cell? ⟨g, m * 3, none⟩ = some (.int .i64 a') ∧ w'.cell? ⟨g, m * 3 + 1, none⟩ = some (.int .i64 b') ∧ w'.cell? ⟨g, m * 3 + 2, none⟩ = some (.int .i64 c') ∧ wr.heap.size ≤ w'.heap.size ∧ Below wr.heap.size wr w')) (first | assumption | exact rr6_start z0 z1 z2 y0 y1 y2 | exact rr6_drew (by assumption) | exact rr6_keep (by omega) (by omega) (by omega) (by omega) (by omega) (by omega) (by assumption) (by assumption) | fail) ((go_at_call 75; refine (order_any a b c a' b' c' _).mono ?_; rw [HOV.out]; rintro e w2 ⟨rfl, hb⟩))
      all_goals
        have hbx := Lib.hid (hB.out.trans ((rr6_out (by assumption)).2.mono (by have := hB.out.size; omega)))
        go_wp2_with fail
        go_roundw
        case rel => exact ⟨(m : Int), by omega, by omega, by go_num, HF, hbx⟩
        case measure => have := HJ.out; simp [intOf]; omega

end Go.Proofs.Ytophppnllkadoaa
