/- Plain mathematics of counting: how many addresses lie in some prefix of a list; the ranges that a sorted list merges to. It imports no program. -/
import Derived.Test.YtpfeekdmeloakaaMc
namespace Go.Proofs.Ytpfeekdmeloakaa

/-- How many of the numbers below n meet f. -/
def cnt (f : Nat → Bool) : Nat → Nat
  | 0 => 0
  | n + 1 => cnt f n + (if f n then 1 else 0)
theorem cnt_le (f : Nat → Bool) : ∀ n, cnt f n ≤ n
  | 0 => Nat.le_refl _
  | n + 1 => by have := cnt_le f n; unfold cnt; split <;> omega
theorem cnt_congr {f g : Nat → Bool} : ∀ n, (∀ a, a < n → f a = g a) → cnt f n = cnt g n
  | 0, _ => rfl
  | n + 1, h => by unfold cnt; rw [cnt_congr n (fun a ha => h a (by omega)), h n (by omega)]
theorem cnt_none : ∀ n, cnt (fun _ => false) n = 0
  | 0 => rfl
  | n + 1 => by unfold cnt; rw [cnt_none n]; rfl
theorem cnt_or {f g : Nat → Bool} : ∀ n, (∀ a, a < n → f a = true → g a = false) → cnt (fun a => f a || g a) n = cnt f n + cnt g n
  | 0, _ => rfl
  | n + 1, h => by
    unfold cnt
    rw [cnt_or n (fun a ha => h a (by omega))]
    have := h n (by omega)
    cases hf : f n <;> cases hg : g n <;> simp_all <;> omega
/-- The numbers of a range. -/
def inR (fr to : Int) (a : Nat) : Bool := decide (fr ≤ (a : Int) ∧ (a : Int) ≤ to)
theorem cnt_range (fr to : Int) (h0 : 0 ≤ fr) (h1 : fr ≤ to + 1) : ∀ n : Nat, to + 1 ≤ (n : Int) → ((cnt (inR fr to) n : Nat) : Int) = to - fr + 1
  | 0, h => by simp [cnt]; omega
  | n + 1, h => by
    unfold cnt
    by_cases hn : to + 1 ≤ (n : Int)
    · have hf : inR fr to n = false := decide_eq_false (by omega)
      rw [hf]
      simp
      exact cnt_range fr to h0 h1 n hn
    · by_cases he : fr = to + 1
      · have : inR fr to = fun _ => false := by funext a; exact decide_eq_false (by omega)
        rw [this, cnt_none]
        simp; omega
      · have hf : inR fr to n = true := decide_eq_true (by push_cast at h; omega)
        have e : cnt (inR fr to) n = cnt (inR fr (to - 1)) n := cnt_congr n fun a ha => by unfold inR; rw [Bool.eq_iff_iff]; simp; omega
        rw [hf, e]
        have := cnt_range fr (to - 1) h0 (by omega) n (by omega)
        simp; omega

abbrev Pf := Int × Int
/-- Whether a lies in a prefix; in some prefix of a list. -/
def inP (p : Pf) (a : Nat) : Bool := inR p.1 (p.1 + psz p.2 - 1) a
def anyP (L : List Pf) (a : Nat) : Bool := L.any fun p => inP p a
def allOk (L : List Pf) : Bool := decide (L.length ≤ 300) && L.all fun p => pokB p.1 p.2
/-- How many addresses the list has. -/
def cntP (L : List Pf) : Nat := cnt (anyP L) 65536
theorem anyP_perm {L M : List Pf} (h : L.Perm M) (a : Nat) : anyP L a = anyP M a := by
  unfold anyP
  rw [Bool.eq_iff_iff, List.any_eq_true, List.any_eq_true]
  exact ⟨fun ⟨x, hx, h1⟩ => ⟨x, h.mem_iff.1 hx, h1⟩, fun ⟨x, hx, h1⟩ => ⟨x, h.mem_iff.2 hx, h1⟩⟩

/-! Ranges -/
def anyR (R : List Pf) (a : Nat) : Bool := R.any fun r => inR r.1 r.2 a
/-- One more prefix of the sorted list goes to the ranges so far. -/
def mrg (R : List Pf) (p : Pf) : List Pf :=
  match R.getLast? with
  | some r => if p.1 ≤ r.2 + 1 then R.dropLast ++ [(r.1, max r.2 (p.1 + psz p.2 - 1))] else R ++ [(p.1, p.1 + psz p.2 - 1)]
  | none => [(p.1, p.1 + psz p.2 - 1)]
def mrgs (L : List Pf) : List Pf := L.foldl mrg []
theorem mrgs_snoc (L : List Pf) (p : Pf) : mrgs (L ++ [p]) = mrg (mrgs L) p := by simp [mrgs]
theorem mrg_nil (p : Pf) : mrg [] p = [(p.1, p.1 + psz p.2 - 1)] := rfl
theorem mrg_last (R : List Pf) (r p : Pf) : mrg (R ++ [r]) p = if p.1 ≤ r.2 + 1 then R ++ [(r.1, max r.2 (p.1 + psz p.2 - 1))] else R ++ [r] ++ [(p.1, p.1 + psz p.2 - 1)] := by
  unfold mrg
  simp

/-- Ranges as they should be: none empty, within the addresses, each behind the one before with a gap. -/
def Rgs (R : List Pf) : Prop := (∀ r ∈ R, 0 ≤ r.1 ∧ r.1 ≤ r.2 ∧ r.2 ≤ 65535) ∧ R.Pairwise fun r s => r.2 + 1 < s.1
theorem Rgs.snoc {R : List Pf} {p : Pf} (h : Rgs R) (hp : 0 ≤ p.1 ∧ p.1 ≤ p.2 ∧ p.2 ≤ 65535) (hg : ∀ r ∈ R, r.2 + 1 < p.1) : Rgs (R ++ [p]) := by
  refine ⟨fun r hr => ?_, ?_⟩
  · rcases List.mem_append.1 hr with hr | hr
    · exact h.1 r hr
    · simp at hr; subst hr; exact hp
  · rw [List.pairwise_append]
    exact ⟨h.2, List.pairwise_singleton _ _, fun r hr s hs => by simp at hs; subst hs; exact hg r hr⟩
theorem Rgs.init {R : List Pf} {p : Pf} (h : Rgs (R ++ [p])) : Rgs R ∧ (0 ≤ p.1 ∧ p.1 ≤ p.2 ∧ p.2 ≤ 65535) ∧ ∀ r ∈ R, r.2 + 1 < p.1 := by
  have h2 := h.2
  rw [List.pairwise_append] at h2
  exact ⟨⟨fun r hr => h.1 r (List.mem_append_left _ hr), h2.1⟩, h.1 p (by simp), fun r hr => h2.2.2 r hr p (by simp)⟩

/-- What the ranges are when a sorted list of valid prefixes has been merged. -/
def MrgInv (L R : List Pf) : Prop := Rgs R ∧ (∀ a, a < 65536 → anyR R a = anyP L a) ∧ (L = [] → R = []) ∧ ∀ r ∈ R, ∃ p ∈ L, r.1 ≤ p.1
theorem pok_in {p : Pf} (h : pokB p.1 p.2 = true) : 0 ≤ p.1 ∧ p.1 ≤ p.1 + psz p.2 - 1 ∧ p.1 + psz p.2 - 1 ≤ 65535 ∧ 0 ≤ p.2 ∧ p.2 ≤ 16 := by
  obtain ⟨h0, h1, h2, h3, h4⟩ := pokB_true h
  have hp := psz_pos p.2 h0 h1
  have hz : psz 0 = 65536 := by decide
  have hd : (65536 : Int) % psz p.2 = 0 := Int.emod_eq_zero_of_dvd (hz ▸ psz_dvd 0 p.2 (by omega) h0 h1)
  have := apart_le p.1 65536 (psz p.2) h4 hd (by omega)
  omega
theorem snoc_ind {α : Type} {P : List α → Prop} (h0 : P []) (h1 : ∀ L x, P L → P (L ++ [x])) (L : List α) : P L := by
  have h : ∀ n (L : List α), L.length = n → P L := by
    intro n
    induction n with
    | zero => intro L hL; rw [List.eq_nil_of_length_eq_zero hL]; exact h0
    | succ n ih =>
      intro L hL
      rcases List.eq_nil_or_concat L with rfl | ⟨M, x, rfl⟩
      · simp at hL
      · rw [List.concat_eq_append] at *
        exact h1 M x (ih M (by simpa using hL))
  exact h _ L rfl

theorem mrg_step {L R : List Pf} {p : Pf} (h : MrgInv L R) (hp : pokB p.1 p.2 = true) (hs : ∀ q ∈ L, q.1 ≤ p.1) : MrgInv (L ++ [p]) (mrg R p) := by
  obtain ⟨h1, h2, h3, h4⟩ := h
  obtain ⟨p0, p1, p2, _, _⟩ := pok_in hp
  rcases List.eq_nil_or_concat R with rfl | ⟨R', r, rfl⟩
  · rw [mrg_nil]
    refine ⟨⟨fun r hr => by simp at hr; subst hr; exact ⟨p0, p1, p2⟩, List.pairwise_singleton _ _⟩, fun a ha => ?_, fun e => by simp at e, fun r hr => ⟨p, by simp, by simp at hr; subst hr; exact Int.le_refl _⟩⟩
    have := h2 a ha
    simp only [anyR, anyP, List.any_nil, List.any_append, List.any_cons, Bool.or_false] at this ⊢
    rw [← this]
    simp [inP]
  · rw [List.concat_eq_append] at *
    obtain ⟨g1, ⟨r0, r1, r2⟩, g3⟩ := h1.init
    have hrp : r.1 ≤ p.1 := by
      obtain ⟨q, hq, hle⟩ := h4 r (by simp)
      exact Int.le_trans hle (hs q hq)
    rw [mrg_last]
    by_cases hle : p.1 ≤ r.2 + 1
    · rw [if_pos hle]
      refine ⟨g1.snoc ⟨r0, by simp only; omega, by simp only; omega⟩ (fun s hs => g3 s hs), fun a ha => ?_, fun e => by simp at e, fun s hs => ?_⟩
      · have := h2 a ha
        simp only [anyR, anyP, List.any_append, List.any_cons, List.any_nil, Bool.or_false] at this ⊢
        rw [← this, Bool.or_assoc]
        congr 1
        rw [Bool.eq_iff_iff]
        simp only [inP, inR, Bool.or_eq_true, decide_eq_true_eq]
        omega
      · rcases List.mem_append.1 hs with hs | hs
        · obtain ⟨q, hq, hle⟩ := h4 s (List.mem_append_left _ hs)
          exact ⟨q, List.mem_append_left _ hq, hle⟩
        · simp at hs; subst hs
          exact ⟨p, by simp, hrp⟩
    · rw [if_neg hle]
      refine ⟨h1.snoc ⟨p0, p1, p2⟩ (fun s hs => ?_), fun a ha => ?_, fun e => by simp at e, fun s hs => ?_⟩
      · rcases List.mem_append.1 hs with hs | hs
        · have := g3 s hs; simp only; omega
        · simp at hs; subst hs; simp only; omega
      · have := h2 a ha
        simp only [anyR, anyP, List.any_append, List.any_cons, List.any_nil, Bool.or_false] at this ⊢
        rw [this]
        rfl
      · rcases List.mem_append.1 hs with hs | hs
        · obtain ⟨q, hq, hle⟩ := h4 s hs
          exact ⟨q, List.mem_append_left _ hq, hle⟩
        · simp at hs; subst hs
          exact ⟨p, by simp, Int.le_refl _⟩

theorem mrgs_inv : ∀ (L : List Pf), (∀ p ∈ L, pokB p.1 p.2 = true) → L.Pairwise (fun p q => p.1 ≤ q.1) → MrgInv L (mrgs L) := by
  intro L
  induction L using snoc_ind with
  | h0 => intro _ _; exact ⟨⟨fun r hr => by simp [mrgs] at hr, List.Pairwise.nil⟩, fun a _ => rfl, fun _ => rfl, fun r hr => by simp [mrgs] at hr⟩
  | h1 L p ih =>
    intro h1 h2
    rw [List.pairwise_append] at h2
    rw [mrgs_snoc]
    exact mrg_step (ih (fun q hq => h1 q (List.mem_append_left _ hq)) h2.1) (h1 p (by simp)) (fun q hq => h2.2.2 q hq p (by simp))

/-- How many addresses the ranges have. -/
def sumR (R : List Pf) : Int := R.foldl (fun s r => s + (r.2 - r.1 + 1)) 0
theorem sumR_snoc (R : List Pf) (r : Pf) : sumR (R ++ [r]) = sumR R + (r.2 - r.1 + 1) := by simp [sumR]
theorem sumR_cnt : ∀ R : List Pf, Rgs R → sumR R = (cnt (anyR R) 65536 : Nat) := by
  intro R
  induction R using snoc_ind with
  | h0 => intro _; rw [show anyR [] = fun _ => false from rfl, cnt_none]; rfl
  | h1 R r ih =>
    intro h
    obtain ⟨g1, ⟨r0, r1, r2⟩, g3⟩ := h.init
    have e : anyR (R ++ [r]) = fun a => anyR R a || inR r.1 r.2 a := by funext a; simp [anyR]
    rw [sumR_snoc, ih g1, e, cnt_or 65536 (fun a _ ha => ?_)]
    · have := cnt_range r.1 r.2 r0 (by omega) 65536 (by omega)
      push_cast
      omega
    · unfold anyR at ha
      rw [List.any_eq_true] at ha
      obtain ⟨s, hs, hsa⟩ := ha
      have := g3 s hs
      simp only [inR, decide_eq_true_eq, decide_eq_false_iff_not] at hsa ⊢
      omega
theorem sum_mrgs (L M : List Pf) (h : ∀ p ∈ L, pokB p.1 p.2 = true) (hp : L.Perm M) (hs : M.Pairwise fun p q => p.1 ≤ q.1) : sumR (mrgs M) = (cntP L : Nat) := by
  have hi := mrgs_inv M (fun p hp' => h p (hp.mem_iff.2 hp')) hs
  have e : cnt (anyR (mrgs M)) 65536 = cnt (anyP L) 65536 := cnt_congr _ fun a ha => by rw [hi.2.1 a ha, anyP_perm hp a]
  unfold cntP
  rw [sumR_cnt _ hi.1, e]

end Go.Proofs.Ytpfeekdmeloakaa
