/- Which edges join two nodes; the first of them. -/
import Derived.Test.YtkkfgnnhdcmmjabQg
namespace Go.Proofs.Ytkkfgnnhdcmmjab
open Go.RowKit


/-- Whether the edge from a to b joins x and y. -/
def jnB (a b x y : Int) : Bool := (a == x && b == y) || (a == y && b == x)
set_option maxHeartbeats 1000000 in
theorem joins_any (a b c x y : Int) (w : World) : Calls Try.prog 45 #[.agg #[.int .i64 a, .int .i64 b, .int .i64 c], .int .i64 x, .int .i64 y] w fun e w' => e = .returned (.bool (jnB a b x y)) ∧ Below w.heap.size w w' := by
  unfold jnB
  by_cases h1 : a = x
  · have e1 : (a == x) = true := by simp [h1]
    rw [e1, Bool.true_and]
    by_cases h2 : b = y
    · have e2 : (b == y) = true := by simp [h2]
      rw [e2, Bool.true_or]
      clear h1 h2
      go_enter Try.func45, Try.ntmps45
      go_wp2
      go_ret
      exact ⟨rfl, by go_grown⟩
    · have e2 : (b == y) = false := by simp [h2]
      rw [e2, Bool.false_or]
      clear h1 h2
      by_cases h3 : a = y
      · have e3 : (a == y) = true := by simp [h3]
        rw [e3, Bool.true_and]
        clear h3
        go_enter Try.func45, Try.ntmps45
        go_wp2
        go_ret
        exact ⟨rfl, by go_grown⟩
      · have e3 : (a == y) = false := by simp [h3]
        rw [e3, Bool.false_and]
        clear h3
        go_enter Try.func45, Try.ntmps45
        go_wp2
        go_ret
        exact ⟨rfl, by go_grown⟩
  · have e1 : (a == x) = false := by simp [h1]
    rw [e1, Bool.false_and, Bool.false_or]
    clear h1
    by_cases h3 : a = y
    · have e3 : (a == y) = true := by simp [h3]
      rw [e3, Bool.true_and]
      clear h3
      go_enter Try.func45, Try.ntmps45
      go_wp2
      go_ret
      exact ⟨rfl, by go_grown⟩
    · have e3 : (a == y) = false := by simp [h3]
      rw [e3, Bool.false_and]
      clear h3
      go_enter Try.func45, Try.ntmps45
      go_wp2
      go_ret
      exact ⟨rfl, by go_grown⟩

set_option maxHeartbeats 1000000 in
theorem clos_any (p q : Nat) (a b c x y : Int) (w : World) (hp : p < w.heap.size) (hq : q < w.heap.size) (h0 : w.cell? ⟨p, 0, none⟩ = some (.int .i64 x)) (h1 : w.cell? ⟨q, 0, none⟩ = some (.int .i64 y)) :
    Calls Try.prog 44 #[.agg #[.int .i64 a, .int .i64 b, .int .i64 c], .pointer (some ⟨p, 0, none⟩), .pointer (some ⟨q, 0, none⟩)] w fun e w' => e = .returned (.bool (jnB a b x y)) ∧ Below w.heap.size w w' := by
  have k0 : (w.alloc (.cells #[.int .i64 a, .int .i64 b, .int .i64 c] 56)).cell? ⟨p, 0, none⟩ = some (.int .i64 x) := by rw [old_box hp]; exact h0
  have k1 : (w.alloc (.cells #[.int .i64 a, .int .i64 b, .int .i64 c] 56)).cell? ⟨q, 0, none⟩ = some (.int .i64 y) := by rw [old_box hq]; exact h1
  have n0 : p ≠ w.heap.size := by omega
  have n1 : q ≠ w.heap.size := by omega
  go_enter Try.func44, Try.ntmps44
  go_wp2_with fail
  go_at_call 45
  refine (joins_any a b c x y _).mono ?_
  rintro e w2 ⟨rfl, hb⟩
  have hB := unbox hb
  clear hb
  go_wp2_with fail
  go_ret
  exact ⟨rfl, hB⟩

/-- The first place at which P holds, or -1. -/
def IdxIs (P : Ed → Bool) (L : List Ed) (r : Int) : Prop :=
  (r = -1 ∧ ∀ (j : Nat) (p : Ed), L[j]? = some p → P p = false) ∨ ∃ i : Nat, r = (i : Int) ∧ i < L.length ∧ (∀ p : Ed, L[i]? = some p → P p = true) ∧ ∀ (j : Nat) (p : Ed), j < i → L[j]? = some p → P p = false
def IdxPost (P : Ed → Bool) (L : List Ed) (w : World) (e : Ending) (w' : World) : Prop := ∃ r : Int, e = .returned (.int .i64 r) ∧ IdxIs P L r ∧ Below w.heap.size w w'

set_option maxRecDepth 100000 in
set_option maxHeartbeats 2000000 in
theorem index_any (p q : Nat) (n : Nat) (ad : Option Addr) (cp : Nat) (L : List Ed) (x y : Int) (w : World) (hp : p < w.heap.size) (hq : q < w.heap.size) (h0 : w.cell? ⟨p, 0, none⟩ = some (.int .i64 x)) (h1 : w.cell? ⟨q, 0, none⟩ = some (.int .i64 y)) (hL : L.length = n) (hn : n ≤ 1100000)
    (hc : 0 < n → ∃ g, ad = some ⟨g, 0, none⟩ ∧ g < w.heap.size ∧ ∀ q z, (flat L)[q]? = some z → w.cell? ⟨g, q, none⟩ = some (.int .i64 z)) :
    Calls Try.prog 59 #[.slice ad n cp, .func (.func 44) #[] #[.pointer (some ⟨p, 0, none⟩), .pointer (some ⟨q, 0, none⟩)]] w (IdxPost (fun e => jnB e.1 e.2.1 x y) L w) := by
  have HL := Lib.hid hL
  have HC := Lib.hid hc
  clear hL hc
  go_enter Try.func59, Try.ntmps59
  go_wp2
  go_loopw [8] (fun i wr => ∃ k : Nat, k ≤ n ∧ i = .int .i64 (k : Int) ∧ Hid (∀ (j : Nat) (e : Ed), j < k → L[j]? = some e → jnB e.1 e.2.1 x y = false) ∧ Hid (Below w.heap.size w wr)) (fun i _ => n - (intOf i).toNat)
  case atStart => exact ⟨0, Nat.zero_le _, rfl, fun j e hj => absurd hj (Nat.not_lt_zero _), Below.refl _ _⟩
  case round =>
    obtain ⟨k, hk, rfl, hF, hB⟩ := hrel
    by_cases hlt : k < n
    · obtain ⟨g, rfl, hg, hcell⟩ := HC.out (by omega)
      obtain ⟨r, hrk⟩ : ∃ r, L[k]? = some r := ⟨L[k]'(by rw [HL.out]; exact hlt), List.getElem?_eq_getElem _⟩
      obtain ⟨a, b, c⟩ := r
      obtain ⟨r0, r1, r2⟩ := flat_at L k _ hrk
      have z0 : wr.cell? ⟨g, k * 3, none⟩ = some (.int .i64 a) := by rw [hB.out.cell (p := ⟨g, k * 3, none⟩) hg]; exact hcell _ _ r0
      have z1 : wr.cell? ⟨g, k * 3 + 1, none⟩ = some (.int .i64 b) := by rw [hB.out.cell (p := ⟨g, k * 3 + 1, none⟩) hg]; exact hcell _ _ r1
      have z2 : wr.cell? ⟨g, k * 3 + 2, none⟩ = some (.int .i64 c) := by rw [hB.out.cell (p := ⟨g, k * 3 + 2, none⟩) hg]; exact hcell _ _ r2
      have HK := Lib.hid hrk
      have k0 : wr.cell? ⟨p, 0, none⟩ = some (.int .i64 x) := by rw [hB.out.cell (p := ⟨p, 0, none⟩) hp]; exact h0
      have k1 : wr.cell? ⟨q, 0, none⟩ = some (.int .i64 y) := by rw [hB.out.cell (p := ⟨q, 0, none⟩) hq]; exact h1
      have hpw : p < wr.heap.size := Nat.lt_of_lt_of_le hp hB.out.size
      have hqw : q < wr.heap.size := Nat.lt_of_lt_of_le hq hB.out.size
      have q0 : (0 : Int) ≤ (k : Int) := by omega
      have q1 : (k : Int) < (n : Int) := by omega
      clear r0 r1 r2 hrk hcell
      by_cases hP : jnB a b x y = true
      · go_wp2_with fail
        go_at_call 44
        refine (clos_any p q a b c x y wr hpw hqw k0 k1).mono ?_
        rw [hP]
        rintro e w2 ⟨rfl, hb⟩
        have hB2 := chain hB.out hb
        have HI : Hid (IdxIs (fun e => jnB e.1 e.2.1 x y) L (k : Int)) := by
          refine Or.inr ⟨k, rfl, by rw [HL.out]; exact hlt, fun p hp => ?_, fun j p hj hp => hF.out j p hj hp⟩
          rw [HK.out] at hp
          obtain rfl := Option.some.inj hp
          exact hP
        clear hb
        go_wp2_with fail
        go_ret
        exact ⟨_, rfl, HI.out, hB2⟩
      · rw [Bool.not_eq_true] at hP
        have HF : Hid (∀ (j : Nat) (e : Ed), j < k + 1 → L[j]? = some e → jnB e.1 e.2.1 x y = false) := fun j e hj he => by
          by_cases ej : j = k
          · subst ej; rw [HK.out] at he; obtain rfl := Option.some.inj he; exact hP
          · exact hF.out j e (by omega) he
        go_wp2_with fail
        go_at_call 44
        refine (clos_any p q a b c x y wr hpw hqw k0 k1).mono ?_
        rw [hP]
        rintro e w2 ⟨rfl, hb⟩
        have hB2 := Lib.hid (chain hB.out hb)
        clear hb hF hB
        go_wp2_with fail
        go_roundw
        case rel => exact ⟨k + 1, by omega, by go_num, HF, hB2⟩
        case measure => simp [intOf]; omega
    · have hge : ¬ ((k : Int) < (n : Int)) := by omega
      obtain rfl : k = n := by omega
      have HI : Hid (IdxIs (fun e => jnB e.1 e.2.1 x y) L (-1)) := Or.inl ⟨rfl, fun j p hp => hF.out j p (by have := (List.getElem?_eq_some_iff.1 hp).1; rw [HL.out] at this; exact this) hp⟩
      clear hF
      go_wp2
      go_ret
      exact ⟨_, rfl, HI.out, hB.out⟩

end Go.Proofs.Ytkkfgnnhdcmmjab
