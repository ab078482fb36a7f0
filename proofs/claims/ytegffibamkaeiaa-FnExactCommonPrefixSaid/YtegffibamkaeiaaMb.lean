/- Plain mathematics of the longest common prefix: the loop's answer and the answer by the bits of a xor b are one. It imports no program. -/
import Derived.Test.YtegffibamkaeiaaMa
import Derived.Lib.ItoaNum
namespace Go.Proofs.Ytegffibamkaeiaa

theorem div_xor (a b k : Nat) : a / 2 ^ k = b / 2 ^ k ↔ a ^^^ b < 2 ^ k := by
  rw [← Nat.shiftRight_eq_div_pow, ← Nat.shiftRight_eq_div_pow]
  constructor
  · intro h
    have : (a ^^^ b) >>> k = 0 := by rw [Nat.shiftRight_xor_distrib, h, Nat.xor_self]
    rw [Nat.shiftRight_eq_div_pow] at this
    exact (Nat.div_eq_zero_iff_lt (Nat.two_pow_pos k)).1 this
  · intro h
    have : (a ^^^ b) >>> k = 0 := by rw [Nat.shiftRight_eq_div_pow]; exact Nat.div_eq_of_lt h
    rw [Nat.shiftRight_xor_distrib] at this
    have h2 := congrArg (fun x => x ^^^ (b >>> k)) this
    simpa [Nat.xor_assoc] using h2

theorem bitLen_le_iff (x k : Nat) (hx : x < 65536) : Lib.bitLen x ≤ k ↔ x < 2 ^ k := by
  unfold Lib.bitLen
  by_cases h0 : x = 0
  · subst h0
    rw [Lib.bitLenAux_zero]
    exact ⟨fun _ => Nat.two_pow_pos k, fun _ => Nat.zero_le k⟩
  · obtain ⟨h1, h2, h3⟩ := Lib.bitLenAux_bounds 64 x (Nat.lt_of_lt_of_le hx (by decide)) h0
    constructor
    · intro h
      exact Nat.lt_of_lt_of_le h3 (Nat.pow_le_pow_right (by decide) h)
    · intro h
      refine Nat.le_of_not_lt fun hk => ?_
      have : 2 ^ k ≤ 2 ^ (Lib.bitLenAux 64 x - 1) := Nat.pow_le_pow_right (by decide) (by omega)
      omega

/-- How many bits two addresses have in common from the left. -/
def cplN (a b : Int) : Int := 16 - (Lib.bitLen (a.toNat ^^^ b.toNat) : Int)

theorem xor_lt (a b : Int) (ha : 0 ≤ a) (ha' : a ≤ 65535) (hb : 0 ≤ b) (hb' : b ≤ 65535) : a.toNat ^^^ b.toNat < 65536 :=
  Nat.xor_lt_two_pow (n := 16) (by omega) (by omega)

theorem cplN_range (a b : Int) (ha : 0 ≤ a) (ha' : a ≤ 65535) (hb : 0 ≤ b) (hb' : b ≤ 65535) : 0 ≤ cplN a b ∧ cplN a b ≤ 16 := by
  have h := (bitLen_le_iff (a.toNat ^^^ b.toNat) 16 (xor_lt a b ha ha' hb hb')).2 (xor_lt a b ha ha' hb hb')
  unfold cplN
  omega

theorem cplN_iff (a b m : Int) (ha : 0 ≤ a) (ha' : a ≤ 65535) (hb : 0 ≤ b) (hb' : b ≤ 65535) (hm : 0 ≤ m) (hm' : m ≤ 16) : a / psz m = b / psz m ↔ m ≤ cplN a b := by
  have h := bitLen_le_iff (a.toNat ^^^ b.toNat) (16 - m).toNat (xor_lt a b ha ha' hb hb')
  have h2 := div_xor a.toNat b.toNat (16 - m).toNat
  have e : ∀ x : Int, 0 ≤ x → x / psz m = ((x.toNat / 2 ^ (16 - m).toNat : Nat) : Int) := fun x hx => by
    unfold psz
    rw [Int.natCast_ediv, Int.toNat_of_nonneg hx, Int.natCast_pow]
    rfl
  rw [e a ha, e b hb]
  unfold cplN
  constructor
  · intro h3
    have := h.2 (h2.1 (by exact_mod_cast h3))
    omega
  · intro h3
    have := h2.2 (h.1 (by omega))
    exact_mod_cast this

end Go.Proofs.Ytegffibamkaeiaa
