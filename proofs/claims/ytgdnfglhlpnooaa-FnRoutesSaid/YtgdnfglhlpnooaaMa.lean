/- Plain mathematics of prefixes: sizes, what it means that a prefix is valid. It imports no program. -/
namespace Go.Proofs.Ytgdnfglhlpnooaa

def inB (x lo hi : Int) : Bool := decide (lo ≤ x ∧ x ≤ hi)
theorem inB_true {x lo hi : Int} (h0 : lo ≤ x) (h1 : x ≤ hi) : inB x lo hi = true := decide_eq_true ⟨h0, h1⟩
theorem inB_false {x lo hi : Int} (h : ¬ (lo ≤ x ∧ x ≤ hi)) : inB x lo hi = false := decide_eq_false h
theorem inB_iff {x lo hi : Int} : inB x lo hi = true ↔ (lo ≤ x ∧ x ≤ hi) := decide_eq_true_iff

def psz (n : Int) : Int := 2 ^ (16 - n).toNat
theorem psz_cases (n : Int) (h0 : 0 ≤ n) (h1 : n ≤ 16) : 
    (n = 0 ∧ psz n = 65536) ∨ (n = 1 ∧ psz n = 32768) ∨ (n = 2 ∧ psz n = 16384) ∨ (n = 3 ∧ psz n = 8192) ∨ (n = 4 ∧ psz n = 4096) ∨ (n = 5 ∧ psz n = 2048) ∨ (n = 6 ∧ psz n = 1024) ∨ (n = 7 ∧ psz n = 512) ∨ (n = 8 ∧ psz n = 256) ∨ (n = 9 ∧ psz n = 128) ∨ (n = 10 ∧ psz n = 64) ∨ (n = 11 ∧ psz n = 32) ∨ (n = 12 ∧ psz n = 16) ∨ (n = 13 ∧ psz n = 8) ∨ (n = 14 ∧ psz n = 4) ∨ (n = 15 ∧ psz n = 2) ∨ (n = 16 ∧ psz n = 1) := by
  have h : n = 0 ∨ n = 1 ∨ n = 2 ∨ n = 3 ∨ n = 4 ∨ n = 5 ∨ n = 6 ∨ n = 7 ∨ n = 8 ∨ n = 9 ∨ n = 10 ∨ n = 11 ∨ n = 12 ∨ n = 13 ∨ n = 14 ∨ n = 15 ∨ n = 16 := by omega
  rcases h with rfl | rfl | rfl | rfl | rfl | rfl | rfl | rfl | rfl | rfl | rfl | rfl | rfl | rfl | rfl | rfl | rfl <;> decide
theorem psz_pos (n : Int) (h0 : 0 ≤ n) (h1 : n ≤ 16) : 1 ≤ psz n := by have := psz_cases n h0 h1; omega
theorem psz_le (n : Int) (h0 : 0 ≤ n) (h1 : n ≤ 16) : psz n ≤ 65536 := by have := psz_cases n h0 h1; omega
/-- Whether a prefix is valid. -/
def pokB (net n : Int) : Bool := inB n 0 16 && inB net 0 65535 && (net % psz n == 0)
theorem pokB_true {net n : Int} (h : pokB net n = true) : 0 ≤ n ∧ n ≤ 16 ∧ 0 ≤ net ∧ net ≤ 65535 ∧ net % psz n = 0 := by
  unfold pokB at h
  simp only [Bool.and_eq_true, beq_iff_eq, inB_iff] at h
  omega
/-- Whether a valid prefix has an address. -/
def hasB (net n a : Int) : Bool := pokB net n && inB a net (net + psz n - 1)
/-- Whether one prefix covers another. -/
def covB (net n net' n' : Int) : Bool := pokB net n && pokB net' n' && decide (n ≤ n') && inB net' net (net + psz n - 1)

end Go.Proofs.Ytgdnfglhlpnooaa
