/- Plain mathematics of ranges: what is marked fixes them; how long their covers are. It imports no program. -/
import Derived.Test.YtpfeekdmeloakaaMg
namespace Go.Proofs.Ytpfeekdmeloakaa

theorem Rgs.tail {r : Pf} {T : List Pf} (h : Rgs (r :: T)) : Rgs T ∧ (0 ≤ r.1 ∧ r.1 ≤ r.2 ∧ r.2 ≤ 65535) ∧ ∀ s ∈ T, r.2 + 1 < s.1 := by
  have h2 := List.pairwise_cons.1 h.2
  exact ⟨⟨fun s hs => h.1 s (List.mem_cons_of_mem _ hs), h2.2⟩, h.1 r (by simp), h2.1⟩
theorem anyR_cons (r : Pf) (T : List Pf) (a : Nat) : anyR (r :: T) a = (inR r.1 r.2 a || anyR T a) := by simp [anyR]
theorem first_le {r r' : Pf} {T T' : List Pf} (h : Rgs (r :: T)) (h' : Rgs (r' :: T')) (he : ∀ a, a < 65536 → anyR (r :: T) a = anyR (r' :: T') a) : r'.1 ≤ r.1 := by
  obtain ⟨_, hr, _⟩ := h.tail
  obtain ⟨_, hr', hp'⟩ := h'.tail
  have h1 : anyR (r :: T) r.1.toNat = true := (anyR_iff _ _).2 ⟨r, by simp, by omega, by omega⟩
  rw [he _ (by omega), anyR_iff] at h1
  obtain ⟨s, hs, h1, h2⟩ := h1
  rcases List.mem_cons.1 hs with rfl | hs
  · omega
  · have := hp' s hs; omega
theorem last_le {r r' : Pf} {T T' : List Pf} (h : Rgs (r :: T)) (h' : Rgs (r' :: T')) (he : ∀ a, a < 65536 → anyR (r :: T) a = anyR (r' :: T') a) (h1 : r.1 = r'.1) : r'.2 ≤ r.2 := by
  obtain ⟨_, hr, hp⟩ := h.tail
  obtain ⟨_, hr', _⟩ := h'.tail
  by_cases hc : r'.2 ≤ r.2
  · exact hc
  · exfalso
    have h2 : anyR (r' :: T') (r.2 + 1).toNat = true := (anyR_iff _ _).2 ⟨r', by simp, by omega, by omega⟩
    rw [← he _ (by omega), anyR_iff] at h2
    obtain ⟨s, hs, h3, h4⟩ := h2
    rcases List.mem_cons.1 hs with rfl | hs
    · omega
    · have := hp s hs; omega
theorem out_false {r : Pf} {T : List Pf} (h : ∀ s ∈ T, r.2 + 1 < s.1) {a : Nat} (ha : inR r.1 r.2 a = true) : anyR T a = false := by
  rw [Bool.eq_false_iff]
  intro hc
  rw [anyR_iff] at hc
  obtain ⟨s, hs, h1, h2⟩ := hc
  have := h s hs
  unfold inR at ha
  rw [decide_eq_true_eq] at ha
  omega
theorem Rgs.uniq : ∀ {R R' : List Pf}, Rgs R → Rgs R' → (∀ a, a < 65536 → anyR R a = anyR R' a) → R = R'
  | [], [], _, _, _ => rfl
  | [], r' :: T', _, h', he => by
    exfalso
    obtain ⟨_, hr', _⟩ := h'.tail
    have h1 : anyR (r' :: T') r'.1.toNat = true := (anyR_iff _ _).2 ⟨r', by simp, by omega, by omega⟩
    rw [← he _ (by omega)] at h1
    cases h1
  | r :: T, [], h, _, he => by
    exfalso
    obtain ⟨_, hr, _⟩ := h.tail
    have h1 : anyR (r :: T) r.1.toNat = true := (anyR_iff _ _).2 ⟨r, by simp, by omega, by omega⟩
    rw [he _ (by omega)] at h1
    cases h1
  | r :: T, r' :: T', h, h', he => by
    have he' : ∀ a, a < 65536 → anyR (r' :: T') a = anyR (r :: T) a := fun a ha => (he a ha).symm
    have e1 : r.1 = r'.1 := Int.le_antisymm (first_le h' h he') (first_le h h' he)
    have e2 : r.2 = r'.2 := Int.le_antisymm (last_le h' h he' e1.symm) (last_le h h' he e1)
    have e : r = r' := Prod.ext e1 e2
    subst e
    obtain ⟨g, _, hp⟩ := h.tail
    obtain ⟨g', _, hp'⟩ := h'.tail
    have ht : T = T' := Rgs.uniq g g' fun a ha => by
      have := he a ha
      rw [anyR_cons, anyR_cons] at this
      cases hi : inR r.1 r.2 a
      · rw [hi] at this; simpa using this
      · rw [out_false hp hi, out_false hp' hi]
    rw [ht]

theorem Greedy.len {e : Int} : ∀ {a : Int} {L : List Pf}, Greedy e a L → a ≤ e + 1 → (L.length : Int) ≤ e + 1 - a
  | a, [], _, h => by simp; omega
  | a, p :: L, ⟨h1, h2, h3, h4⟩, h => by
    have := psz_pos p.2 h3.1 h3.2.1
    have h5 := h3.2.2.2.1
    have := h4.len (by omega)
    simp only [List.length_cons]
    omega
theorem tr_cover {r : Pf} (h : 0 ≤ r.1 ∧ r.1 ≤ r.2 ∧ r.2 ≤ 65535) : Greedy r.2 r.1 (tr r) := tree_cover r.1 r.2 h.1 h.2.1 h.2.2
theorem tr_len {r : Pf} (h : 0 ≤ r.1 ∧ r.1 ≤ r.2 ∧ r.2 ≤ 65535) : 0 < (tr r).length ∧ ((tr r).length : Int) ≤ r.2 - r.1 + 1 := by
  have hg := tr_cover h
  refine ⟨?_, by have := hg.len (by omega); omega⟩
  cases ht : tr r with
  | nil => rw [ht] at hg; have h1 : r.2 < r.1 := hg; omega
  | cons p L => simp
theorem agg_sum (R : List Pf) : (∀ r ∈ R, 0 ≤ r.1 ∧ r.1 ≤ r.2 ∧ r.2 ≤ 65535) → ((aggR R).length : Int) ≤ sumR R := by
  induction R using snoc_ind with
  | h0 => intro _; exact Int.le_refl _
  | h1 R r ih =>
    intro h
    rw [aggR_snoc, sumR_snoc, List.length_append]
    have := ih fun s hs => h s (List.mem_append_left _ hs)
    have := (tr_len (h r (by simp))).2
    push_cast
    omega
theorem agg_len {R : List Pf} (h : Rgs R) : (aggR R).length ≤ 65536 := by
  have h1 := agg_sum R h.1
  rw [sumR_cnt R h] at h1
  have := cnt_le (anyR R) 65536
  omega

/-- There is a list in the order of the addresses. -/
theorem sorted_perm (L : List Pf) : ∃ M : List Pf, L.Perm M ∧ M.Pairwise fun p q => p.1 ≤ q.1 := by
  refine ⟨L.mergeSort fun p q => decide (p.1 ≤ q.1), (List.mergeSort_perm _ _).symm, ?_⟩
  have := List.pairwise_mergeSort (le := fun (p q : Pf) => decide (p.1 ≤ q.1)) (fun a b c h1 h2 => by simp at *; omega) (fun a b => by simp; omega) L
  exact this.imp fun h => by simpa using h
theorem says_mrgs {L M : List Pf} (h : ∀ p ∈ L, pokB p.1 p.2 = true) (hp : L.Perm M) (hs : M.Pairwise fun p q => p.1 ≤ q.1) : Says (anyP L) (mrgs M) := by
  have hi := mrgs_inv M (fun p hp' => h p (hp.mem_iff.2 hp')) hs
  exact ⟨hi.1, fun a ha => by rw [hi.2.1 a ha, anyP_perm hp a]⟩
theorem Says.uniq {f : Nat → Bool} {R R' : List Pf} (h : Says f R) (h' : Says f R') : R = R' := h.1.uniq h'.1 fun a ha => by rw [h.2 a ha, h'.2 a ha]
end Go.Proofs.Ytpfeekdmeloakaa
