/- Whether a list of prefixes is valid, of the program, as a contract. -/
import Derived.Test.YtpfeekdmeloakaaWb
import Derived.Test.YtpfeekdmeloakaaMn
import Derived.Test.YtpfeekdmeloakaaL0
namespace Go.Proofs.Ytpfeekdmeloakaa
open Go.RowKit

def flat2 (L : List Pf) : List Int := L.flatMap fun p => [p.1, p.2]
theorem flat2_cons (r : Pf) (L : List Pf) : flat2 (r :: L) = r.1 :: r.2 :: flat2 L := rfl
theorem flat2_len : ∀ L : List Pf, (flat2 L).length = L.length * 2
  | [] => rfl
  | r :: L => by rw [flat2_cons]; simp only [List.length_cons, flat2_len L]; omega
theorem flat2_app (L M : List Pf) : flat2 (L ++ M) = flat2 L ++ flat2 M := by simp [flat2]
theorem flat2_at : ∀ (L : List Pf) (i : Nat) (r : Pf), L[i]? = some r → (flat2 L)[i * 2]? = some r.1 ∧ (flat2 L)[i * 2 + 1]? = some r.2
  | [], i, r, h => by simp at h
  | q :: L, 0, r, h => by
    simp only [List.getElem?_cons_zero, Option.some.injEq] at h
    subst h
    exact ⟨rfl, rfl⟩
  | q :: L, i + 1, r, h => by
    have := flat2_at L i r (by simpa using h)
    rw [flat2_cons, show (i + 1) * 2 = i * 2 + 1 + 1 by omega]
    simpa using this
/-- The prefixes that a function of integers spells. -/
def pfs (Z : Nat → Int) (n : Nat) : List Pf := (List.range n).map fun i => (Z (i * 2), Z (i * 2 + 1))
theorem pfs_len (Z : Nat → Int) (n : Nat) : (pfs Z n).length = n := by simp [pfs]
theorem flat2_pfs (Z : Nat → Int) : ∀ n, flat2 (pfs Z n) = (List.range (n * 2)).map Z
  | 0 => rfl
  | n + 1 => by
    have h : pfs Z (n + 1) = pfs Z n ++ [(Z (n * 2), Z (n * 2 + 1))] := by simp [pfs, List.range_succ]
    rw [h, flat2_app, flat2_pfs Z n, show (n + 1) * 2 = n * 2 + 1 + 1 by omega]
    simp only [List.range_succ, List.map_append, List.map_cons, List.map_nil, List.append_assoc]
    rfl

set_option maxHeartbeats 1000000 in
theorem bad_any (net n : Int) (w : World) :
    Calls Try.prog 111 #[.agg #[.int .i64 net, .int .i64 n]] w fun e w' => e = .returned (.bool (!pokB net n)) ∧ Below w.heap.size w w' := by
  go_enter Try.func111, Try.ntmps111
  go_wp2_with fail
  go_at_call 101
  refine (pok_any net n _).mono ?_
  rintro e w3 ⟨rfl, hb3⟩
  have hB := unbox hb3
  clear hb3
  go_wp2_with fail
  go_ret
  exact ⟨rfl, hB⟩

/-- The index of the first prefix that is not valid; -1 where all are. -/
def badI (L : List Pf) : Int := match L.findIdx? (fun p => !pokB p.1 p.2) with | some i => (i : Int) | none => -1
theorem badI_none {L : List Pf} (h : ∀ (i : Nat) (p : Pf), L[i]? = some p → pokB p.1 p.2 = true) : badI L = -1 := by
  unfold badI
  have : L.findIdx? (fun p => !pokB p.1 p.2) = none := by
    rw [List.findIdx?_eq_none_iff]
    intro x hx
    obtain ⟨i, hi⟩ := List.getElem?_of_mem hx
    simp [h i x hi]
  rw [this]
theorem badI_some {L : List Pf} {k : Nat} {p : Pf} (h : ∀ i, i < k → ∀ p, L[i]? = some p → pokB p.1 p.2 = true) (hk : L[k]? = some p) (hp : pokB p.1 p.2 = false) : badI L = (k : Int) := by
  unfold badI
  have : L.findIdx? (fun p => !pokB p.1 p.2) = some k := by
    rw [List.findIdx?_eq_some_iff_getElem]
    obtain ⟨hlt, he⟩ := List.getElem?_eq_some_iff.1 hk
    refine ⟨hlt, by rw [he, hp]; rfl, fun j hj => ?_⟩
    have := h j hj _ (List.getElem?_eq_getElem (by omega))
    simp [this]
  rw [this]
theorem badI_ok (L : List Pf) : decide (0 ≤ badI L) = !(L.all fun p => pokB p.1 p.2) := by
  by_cases h : ∀ (i : Nat) (p : Pf), L[i]? = some p → pokB p.1 p.2 = true
  · rw [badI_none h]
    have : (L.all fun p => pokB p.1 p.2) = true := by
      rw [List.all_eq_true]
      intro x hx
      obtain ⟨i, hi⟩ := List.getElem?_of_mem hx
      exact h i x hi
    rw [this]
    rfl
  · have : (L.all fun p => pokB p.1 p.2) = false := by
      rw [Bool.eq_false_iff]
      intro ha
      rw [List.all_eq_true] at ha
      exact h fun i p hp => ha p (List.mem_of_getElem? hp)
    rw [this]
    unfold badI
    cases hf : L.findIdx? (fun p => !pokB p.1 p.2) with
    | some i => simp
    | none =>
      rw [List.findIdx?_eq_none_iff] at hf
      exact absurd (fun i p hp => by have := hf p (List.mem_of_getElem? hp); simpa using this) h

set_option maxHeartbeats 2000000 in
theorem index_some (g n cap : Nat) (L : List Pf) (w : World) (hn : L.length = n) (hl : n ≤ 1100000) (hg : g < w.heap.size) (h : ∀ q z, (flat2 L)[q]? = some z → w.cell? ⟨g, q, none⟩ = some (.int .i64 z)) :
    Calls Try.prog 133 #[.slice (some ⟨g, 0, none⟩) n cap, .func (.func 111) #[] #[]] w fun e w' => e = .returned (.int .i64 (badI L)) ∧ Below w.heap.size w w' := by
  have Hn := Lib.hid hn
  have H := Lib.hid h
  clear h hn
  go_enter Try.func133, Try.ntmps133
  go_wp2
  go_loopw [8] (fun i wr => ∃ k : Nat, k ≤ n ∧ i = .int .i64 (k : Int) ∧ Hid (∀ i, i < k → ∀ p, L[i]? = some p → pokB p.1 p.2 = true) ∧ Below w.heap.size w wr) (fun i _ => n - (intOf i).toNat)
  case atStart => exact ⟨0, Nat.zero_le _, rfl, fun i hi => absurd hi (Nat.not_lt_zero _), Below.refl _ _⟩
  case round =>
    obtain ⟨k, hk, rfl, hR, hB⟩ := hrel
    by_cases hlt : k < n
    · obtain ⟨r, hr⟩ : ∃ r, L[k]? = some r := ⟨L[k]'(by rw [Hn.out]; exact hlt), List.getElem?_eq_getElem _⟩
      obtain ⟨a, b⟩ := r
      obtain ⟨r0, r1⟩ := flat2_at L k _ hr
      have k1 : wr.cell? ⟨g, k * 2, none⟩ = some (.int .i64 a) := by rw [hB.cell (p := ⟨g, k * 2, none⟩) hg]; exact H.out _ _ r0
      have k2 : wr.cell? ⟨g, k * 2 + 1, none⟩ = some (.int .i64 b) := by rw [hB.cell (p := ⟨g, k * 2 + 1, none⟩) hg]; exact H.out _ _ r1
      have HL := Lib.hid hr
      have HB := Lib.hid hB
      clear r0 r1 hr hB
      have q0 : (0 : Int) ≤ (k : Int) := by omega
      have q1 : (k : Int) < (n : Int) := by omega
      have HC := bad_any a b
      by_cases hp : pokB a b = true
      · rw [hp] at HC
        have Hp : Hid (pokB a b = true) := hp
        clear hp
        go_wp2_with (go_at_call 111; refine (HC _).mono ?_; rintro e w2 ⟨rfl, hb⟩; have HB2 := Lib.hid (chain HB.out hb); clear hb)
        go_roundw
        case rel => exact ⟨k + 1, by omega, by go_num, fun i hi p hp => by
          by_cases e : i = k
          · subst e; rw [HL.out] at hp; cases hp; exact Hp.out
          · exact hR.out i (by omega) p hp, HB2.out⟩
        case measure => simp [intOf]; omega
      · rw [Bool.not_eq_true] at hp
        rw [hp] at HC
        have Hbad := Lib.hid (badI_some hR.out HL.out hp)
        clear hp
        go_wp2_with (go_at_call 111; refine (HC _).mono ?_; rintro e w2 ⟨rfl, hb⟩; have HB2 := Lib.hid (chain HB.out hb); clear hb)
        go_ret
        exact ⟨ret_int Hbad.out.symm, HB2.out⟩
    · have hge : ¬ ((k : Int) < (n : Int)) := by omega
      obtain rfl : k = n := by omega
      have Hbad := Lib.hid (badI_none (L := L) fun i p hp => hR.out i (by have := (List.getElem?_eq_some_iff.1 hp).1; rw [Hn.out] at this; exact this) p hp)
      go_wp2
      go_ret
      exact ⟨ret_int Hbad.out.symm, hB⟩

set_option maxHeartbeats 1000000 in
theorem index_nil (a : Option Addr) (c : Nat) (w : World) :
    Calls Try.prog 133 #[.slice a 0 c, .func (.func 111) #[] #[]] w fun e w' => e = .returned (.int .i64 (-1)) ∧ w = w' := by
  go_enter Try.func133, Try.ntmps133
  go_wp2
  go_loop [8] (fun i => i = .int .i64 0) (fun i => (intOf i).toNat)
  case atStart => exact rfl
  case round =>
    subst hrel
    go_wp2
    go_ret
    exact ⟨rfl, rfl⟩

theorem index_any (lo hi n : Nat) (v : Value) (L : List Pf) (w : World) (hL : L.length = n) (hr : Row 2 w lo hi v n (flat2 L)) (hh : hi ≤ w.heap.size) :
    Calls Try.prog 133 #[v, .func (.func 111) #[] #[]] w fun e w' => e = .returned (.int .i64 (badI L)) ∧ Below w.heap.size w w' := by
  rcases hr.2 with ⟨rfl, a, c, rfl⟩ | ⟨g, cap, rfl, h1, h2, h3, h4, h5⟩
  · have : L = [] := List.eq_nil_of_length_eq_zero hL
    subst this
    exact (index_nil a c w).mono fun _ _ ⟨h1, h2⟩ => ⟨h1, h2 ▸ Below.refl _ _⟩
  · exact index_some g n cap L w hL h3 (by omega) h4

set_option maxHeartbeats 1000000 in
theorem prefixesOk_any (lo hi n : Nat) (v : Value) (L : List Pf) (w : World) (hL : L.length = n) (hr : Row 2 w lo hi v n (flat2 L)) (hh : hi ≤ w.heap.size) (hl : n ≤ 1100000) :
    Calls Try.prog 79 #[v] w fun e w' => e = .returned (.bool (allOk L)) ∧ Below w.heap.size w w' := by
  have HI := fun w1 (hb : Below w.heap.size w w1) => index_any lo hi n v L w1 hL (hr.below hb hh) (Nat.le_trans hh hb.size)
  have Ha : Hid (allOk L = (decide (n ≤ 300) && !decide (0 ≤ badI L))) := by show allOk L = _; unfold allOk; rw [hL, badI_ok, Bool.not_not]
  obtain ⟨a, c, rfl⟩ := hr.slice
  have HIh := Lib.hid HI
  clear HI hr
  by_cases h3 : n ≤ 300
  · have h3' : (n : Int) ≤ 300 := by omega
    have HC : ∀ w1, Below w.heap.size w w1 → Calls Try.prog 110 #[.slice a n c, .func (.func 111) #[] #[]] w1 fun e w' => e = .returned (.bool (decide (0 ≤ badI L))) ∧ Below w1.heap.size w1 w' := by
      intro w1 hb
      go_enter Try.func110, Try.ntmps110
      go_wp2_with (go_at_call 133; refine (HIh.out _ hb).mono ?_; rintro e w2 ⟨rfl, hb2⟩)
      go_ret
      exact ⟨rfl, hb2⟩
    have HCh := Lib.hid HC
    clear HC
    generalize hd : decide (0 ≤ badI L) = d at *
    rw [Ha.out, decide_eq_true h3, Bool.true_and]
    go_enter Try.func79, Try.ntmps79
    go_wp2_with (go_at_call 110; refine (HCh.out _ (by go_grown)).mono ?_; rintro e w2 ⟨rfl, hb2⟩)
    go_ret
    exact ⟨rfl, hb2⟩
  · have h3' : ¬ ((n : Int) ≤ 300) := by omega
    have hd : decide ((n : Int) ≤ 300) = false := decide_eq_false h3'
    rw [Ha.out, decide_eq_false h3, Bool.false_and]
    go_enter Try.func79, Try.ntmps79
    go_wp2
    go_ret
    exact ⟨rfl, Below.refl _ _⟩

end Go.Proofs.Ytpfeekdmeloakaa
