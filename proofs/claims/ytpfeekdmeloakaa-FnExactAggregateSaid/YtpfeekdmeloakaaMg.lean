/- Plain mathematics of blocks: the greatest blocks of marked numbers are the greedy covers of the ranges, one after another. It imports no program. -/
import Derived.Test.YtpfeekdmeloakaaMn
namespace Go.Proofs.Ytpfeekdmeloakaa

/-- The cover of a range; of ranges, one after another. -/
def tr (r : Pf) : List Pf := tree r.1 r.2 17 0 0
def aggR (R : List Pf) : List Pf := R.flatMap tr
theorem aggR_snoc (R : List Pf) (r : Pf) : aggR (R ++ [r]) = aggR R ++ tr r := by simp [aggR]

/-- Whether block i of 2 ^ d numbers is marked as a whole. -/
def fullB (f : Nat → Bool) : Nat → Nat → Bool
  | 0, i => f i
  | d + 1, i => fullB f d (2 * i) && fullB f d (2 * i + 1)
theorem fullB_iff (f : Nat → Bool) : ∀ (d i : Nat), fullB f d i = true ↔ ∀ x, i * 2 ^ d ≤ x → x < (i + 1) * 2 ^ d → f x = true
  | 0, i => by
    simp only [fullB, Nat.pow_zero, Nat.mul_one]
    exact ⟨fun h x h1 h2 => by obtain rfl : x = i := by omega
                               exact h, fun h => h i (Nat.le_refl _) (by omega)⟩
  | d + 1, i => by
    simp only [fullB, Bool.and_eq_true, fullB_iff f d]
    have e0 : i * 2 ^ (d + 1) = 2 * i * 2 ^ d := by rw [Nat.pow_succ, ← Nat.mul_assoc, Nat.mul_right_comm, Nat.mul_comm i 2]
    have e1 : (i + 1) * 2 ^ (d + 1) = (2 * i + 1 + 1) * 2 ^ d := by rw [Nat.pow_succ, ← Nat.mul_assoc, Nat.mul_right_comm]; congr 1; omega
    have e2 : (2 * i + 1) * 2 ^ d = 2 * i * 2 ^ d + 2 ^ d := by rw [Nat.add_mul, Nat.one_mul]
    rw [e0, e1]
    constructor
    · rintro ⟨h1, h2⟩ x hx hx'
      by_cases h : x < (2 * i + 1) * 2 ^ d
      · exact h1 x hx h
      · exact h2 x (by omega) hx'
    · intro h
      have e3 : (2 * i + 1 + 1) * 2 ^ d = (2 * i + 1) * 2 ^ d + 2 ^ d := by rw [Nat.add_mul, Nat.one_mul]
      exact ⟨fun x hx hx' => h x hx (by omega), fun x hx hx' => h x (by omega) hx'⟩

/-- All numbers of the block of length n at a are marked. -/
def AllM (f : Nat → Bool) (a n : Int) : Prop := ∀ x : Nat, a ≤ (x : Int) → (x : Int) < a + psz n → f x = true
/-- n is the length of the greatest block at a that is marked as a whole. -/
def BLvl (f : Nat → Bool) (a n : Int) : Prop := 0 ≤ n ∧ n ≤ 16 ∧ a % psz n = 0 ∧ AllM f a n ∧ ∀ m, 0 ≤ m → m < n → ¬ (a % psz m = 0 ∧ AllM f a m)

/-- The ranges R say which numbers are marked. -/
def Says (f : Nat → Bool) (R : List Pf) : Prop := Rgs R ∧ ∀ a, a < 65536 → anyR R a = f a

theorem block_end {a n : Int} (h0 : 0 ≤ n) (h1 : n ≤ 16) (ha : a < 65536) (hal : a % psz n = 0) : a + psz n ≤ 65536 := by
  have hp := psz_pos n h0 h1
  have hz : psz 0 = 65536 := by decide
  have hd : (65536 : Int) % psz n = 0 := Int.emod_eq_zero_of_dvd (hz ▸ psz_dvd 0 n (by omega) h0 h1)
  exact apart_le a 65536 (psz n) hal hd ha
theorem anyR_iff (R : List Pf) (a : Nat) : anyR R a = true ↔ ∃ r ∈ R, r.1 ≤ (a : Int) ∧ (a : Int) ≤ r.2 := by
  unfold anyR inR
  rw [List.any_eq_true]
  simp only [decide_eq_true_eq]
theorem apart {R : List Pf} (h : R.Pairwise fun r s => r.2 + 1 < s.1) {r s : Pf} (hr : r ∈ R) (hs : s ∈ R) : r = s ∨ r.2 + 1 < s.1 ∨ s.2 + 1 < r.1 := by
  induction h with
  | nil => cases hr
  | cons h1 _ ih =>
    rcases List.mem_cons.1 hr with e | hr' <;> rcases List.mem_cons.1 hs with e' | hs'
    · exact .inl (e.trans e'.symm)
    · exact .inr (.inl (e ▸ h1 _ hs'))
    · exact .inr (.inr (e' ▸ h1 _ hr'))
    · exact ih hr' hs'
theorem allM_iff {f : Nat → Bool} {R : List Pf} (hS : Says f R) {r : Pf} (hr : r ∈ R) {a n : Int} (h1 : r.1 ≤ a) (h2 : a ≤ r.2) (n0 : 0 ≤ n) (n1 : n ≤ 16) (hal : a % psz n = 0) : AllM f a n ↔ a + psz n - 1 ≤ r.2 := by
  obtain ⟨b0, b1, b2⟩ := hS.1.1 r hr
  have hp := psz_pos n n0 n1
  have he := block_end n0 n1 (by omega) hal
  constructor
  · intro h
    by_cases hc : a + psz n - 1 ≤ r.2
    · exact hc
    · exfalso
      have hx := h (r.2 + 1).toNat (by omega) (by omega)
      rw [← hS.2 _ (by omega), anyR_iff] at hx
      obtain ⟨s, hs, hs1, hs2⟩ := hx
      rcases apart hS.1.2 hr hs with rfl | h' | h'
      · omega
      · omega
      · have := (hS.1.1 s hs).2.1; omega
  · intro h x hx hx'
    rw [← hS.2 x (by omega), anyR_iff]
    exact ⟨r, hr, by omega, by omega⟩
theorem bLvl_lvl {f : Nat → Bool} {R : List Pf} (hS : Says f R) {r : Pf} (hr : r ∈ R) {a n : Int} (h1 : r.1 ≤ a) (h2 : a ≤ r.2) (h : BLvl f a n) : IsLvl a r.2 n := by
  obtain ⟨n0, n1, hal, hA, hm⟩ := h
  refine ⟨n0, n1, hal, (allM_iff hS hr h1 h2 n0 n1 hal).1 hA, fun m m0 m1 hc => hm m m0 m1 ⟨hc.1, (allM_iff hS hr h1 h2 m0 (by omega) hc.1).2 hc.2⟩⟩

/-- What the walk over the numbers keeps: all below a is done, O. -/
def AggInv (R : List Pf) (a : Int) (O : List Pf) : Prop :=
  ∃ P Q : List Pf, R = P ++ Q ∧ (∀ r ∈ P, r.2 < a) ∧
    ((O = aggR P ∧ ∀ r ∈ Q, a ≤ r.1) ∨ ∃ r Q' L', Q = r :: Q' ∧ r.1 ≤ a ∧ a ≤ r.2 ∧ Reach r.2 r.1 L' a ∧ O = aggR P ++ L')
theorem AggInv.start {R : List Pf} (h : Rgs R) : AggInv R 0 [] := ⟨[], R, rfl, fun _ h => (by cases h), .inl ⟨rfl, fun r hr => (h.1 r hr).1⟩⟩
theorem AggInv.skip {f : Nat → Bool} {R O : List Pf} {a : Nat} (hS : Says f R) (ha : a < 65536) (hf : f a = false) (h : AggInv R (a : Int) O) : AggInv R ((a : Int) + 1) O := by
  obtain ⟨P, Q, rfl, hP, hQ⟩ := h
  refine ⟨P, Q, rfl, fun r hr => by have := hP r hr; omega, ?_⟩
  have hno : ∀ r ∈ P ++ Q, ¬ (r.1 ≤ (a : Int) ∧ (a : Int) ≤ r.2) := fun r hr hc => by
    have := hS.2 a ha
    rw [hf] at this
    rw [(anyR_iff _ a).2 ⟨r, hr, hc⟩] at this
    cases this
  rcases hQ with ⟨hO, hQ⟩ | ⟨r, Q', L', rfl, h1, h2, _⟩
  · refine .inl ⟨hO, fun r hr => ?_⟩
    have := hQ r hr
    have hb := hS.1.1 r (List.mem_append_right _ hr)
    have := hno r (List.mem_append_right _ hr)
    omega
  · exact absurd ⟨h1, h2⟩ (hno r (by simp))
theorem AggInv.inside {f : Nat → Bool} {P Q' L' : List Pf} {r : Pf} {a n : Int} (hS : Says f (P ++ r :: Q')) (hP : ∀ r ∈ P, r.2 < a) (h1 : r.1 ≤ a) (h2 : a ≤ r.2) (hR : Reach r.2 r.1 L' a) (hn : BLvl f a n) :
    AggInv (P ++ r :: Q') (a + psz n) (aggR P ++ L' ++ [(a, n)]) := by
  have hr : r ∈ P ++ r :: Q' := by simp
  have hl := bLvl_lvl hS hr h1 h2 hn
  have hp := psz_pos n hn.1 hn.2.1
  have hs := hR.snoc h2 hl
  have hb := hS.1.1 r hr
  by_cases hc : a + psz n ≤ r.2
  · exact ⟨P, r :: Q', rfl, fun s hs => by have := hP s hs; omega, .inr ⟨r, Q', _, rfl, by omega, hc, hs, by rw [List.append_assoc]⟩⟩
  · have ht : L' ++ [(a, n)] = tr r := (hs.greedy (by omega)).uniq (tree_cover r.1 r.2 hb.1 hb.2.1 hb.2.2)
    have hle := hl.2.2.2.1
    refine ⟨P ++ [r], Q', by simp, fun s hs => ?_, .inl ⟨by rw [aggR_snoc, List.append_assoc, ht], fun s hs => ?_⟩⟩
    · rcases List.mem_append.1 hs with hs | hs
      · have := hP s hs; omega
      · simp at hs; subst hs; omega
    · have hpw := hS.1.2
      rw [List.pairwise_append] at hpw
      have := (List.pairwise_cons.1 hpw.2.1).1 s hs
      omega
theorem AggInv.step {f : Nat → Bool} {R O : List Pf} {a : Nat} {n : Int} (hS : Says f R) (ha : a < 65536) (hn : BLvl f (a : Int) n) (h : AggInv R (a : Int) O) : AggInv R ((a : Int) + psz n) (O ++ [((a : Int), n)]) := by
  obtain ⟨P, Q, rfl, hP, hQ⟩ := h
  rcases hQ with ⟨rfl, hQ⟩ | ⟨r, Q', L', rfl, h1, h2, h3, rfl⟩
  · have hp := psz_pos n hn.1 hn.2.1
    have hf : f a = true := hn.2.2.2.1 a (Int.le_refl _) (by omega)
    rw [← hS.2 a ha, anyR_iff] at hf
    obtain ⟨r, hr, h1, h2⟩ := hf
    rcases List.mem_append.1 hr with hr | hr
    · have := hP r hr; omega
    · have := hQ r hr
      cases Q with
      | nil => cases hr
      | cons s Q' =>
        have hs1 := hQ s (by simp)
        have hs2 := hS.1.1 s (by simp)
        rcases apart hS.1.2 (show r ∈ P ++ s :: Q' by simp at hr ⊢; exact .inr hr) (show s ∈ P ++ s :: Q' by simp) with rfl | h' | h'
        · have := AggInv.inside (L' := []) hS hP h1 h2 (show r.1 = (a : Int) by omega) hn
          rw [List.append_nil] at this
          exact this
        · have hpw := hS.1.2
          rw [List.pairwise_append] at hpw
          rcases List.mem_cons.1 hr with rfl | hr'
          · omega
          · have := (List.pairwise_cons.1 hpw.2.1).1 r hr'; omega
        · omega
  · exact AggInv.inside hS hP h1 h2 h3 hn
theorem AggInv.end_ {f : Nat → Bool} {R O : List Pf} {a : Int} (hS : Says f R) (ha : 65536 ≤ a) (h : AggInv R a O) : O = aggR R := by
  obtain ⟨P, Q, rfl, hP, hQ⟩ := h
  rcases hQ with ⟨rfl, hQ⟩ | ⟨r, Q', L', rfl, h1, h2, _⟩
  · cases Q with
    | nil => rw [List.append_nil]
    | cons s Q' =>
      have := hQ s (by simp)
      have := hS.1.1 s (by simp)
      omega
  · have := hS.1.1 r (by simp)
    omega
end Go.Proofs.Ytpfeekdmeloakaa
