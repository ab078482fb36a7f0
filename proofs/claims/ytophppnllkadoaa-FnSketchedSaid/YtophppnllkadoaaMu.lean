/- Plain mathematics of AddTop: what the model puts together, what the program sorts. -/
import Derived.Test.YtophppnllkadoaaS1
namespace Go.Proofs.Ytophppnllkadoaa
open Go.RowKit

/-- The elements of another key. -/
def addRest (L : List Hv) (k : Int) : List Hv := L.filter fun r => decide (r.1 ≠ k)
/-- The element that comes in. -/
def addNew (L : List Hv) (k n : Int) : Hv :=
  if fndN L k < L.length then (k, (L.getD (fndN L k) (0, 0, 0)).2.1 + n, (L.getD (fndN L k) (0, 0, 0)).2.2)
  else if L.length = 4 then (k, (L.getD 3 (0, 0, 0)).2.1 + n, (L.getD 3 (0, 0, 0)).2.1) else (k, n, 0)
def addBase (L : List Hv) (k : Int) : List Hv := if fndN L k < L.length then addRest L k else if L.length = 4 then L.take 3 else L
/-- An element put ahead of the first that it stands ahead of. -/
def insH (h : Hv) : List Hv → List Hv
  | [] => [h]
  | r :: B => if ah h r = true then h :: r :: B else r :: insH h B
def addOut (L : List Hv) (k n : Int) : List Hv := insH (addNew L k n) (addBase L k)
noncomputable def addB (L : List Hv) (k n : Int) : Bool := topB L && (adB k n && topB (addOut L k n))
/-- What AddTop answers. -/
noncomputable def addL (L : List Hv) (k n : Int) : List Hv := if addB L k n = true then addOut L k n else L
theorem addB_yes {L : List Hv} {k n : Int} (h1 : topB L = true) (h2 : adB k n = true) (h3 : topB (addOut L k n) = true) : addB L k n = true ∧ addL L k n = addOut L k n := by
  have : addB L k n = true := by unfold addB; rw [h1, h2, h3]; rfl
  exact ⟨this, by unfold addL; rw [if_pos this]⟩
theorem addB_no {L : List Hv} {k n : Int} (h : topB L = false ∨ adB k n = false ∨ topB (addOut L k n) = false) : addB L k n = false ∧ addL L k n = L := by
  have : addB L k n = false := by
    unfold addB
    rcases h with h | h | h <;> rw [h] <;> simp
  exact ⟨this, by unfold addL; rw [if_neg (by rw [this]; simp)]⟩
theorem insH_perm (h : Hv) : ∀ L, (insH h L).Perm (h :: L)
  | [] => List.Perm.refl _
  | r :: B => by
    unfold insH
    split
    · exact List.Perm.refl _
    · exact ((insH_perm h B).cons r).trans (List.Perm.swap h r B)
theorem insH_len (h : Hv) (L : List Hv) : (insH h L).length = L.length + 1 := by rw [(insH_perm h L).length_eq]; rfl
theorem insH_mem {h r : Hv} {L : List Hv} : r ∈ insH h L ↔ r = h ∨ r ∈ L := by rw [(insH_perm h L).mem_iff, List.mem_cons]
theorem insH_sorted (h : Hv) : ∀ L : List Hv, L.Pairwise (fun p q => ah p q = true) → (∀ r ∈ L, h.1 ≠ r.1) → (insH h L).Pairwise (fun p q => ah p q = true)
  | [], _, _ => by simp [insH]
  | r :: B, hp, hn => by
    obtain ⟨h1, h2⟩ := List.pairwise_cons.1 hp
    unfold insH
    split
    · rename_i hlt
      refine List.pairwise_cons.2 ⟨fun y hy => ?_, hp⟩
      rcases List.mem_cons.1 hy with rfl | hy
      · exact hlt
      · exact ah_trans hlt (h1 y hy)
    · rename_i hge
      rw [Bool.not_eq_true] at hge
      refine List.pairwise_cons.2 ⟨fun y hy => ?_, insH_sorted h B h2 (fun y hy => hn y (List.mem_cons_of_mem _ hy))⟩
      rcases insH_mem.1 hy with rfl | hy
      · exact ah_total (hn r List.mem_cons_self) hge
      · exact h1 y hy
theorem TopP.pair {L : List Hv} (h : TopP L) : L.Pairwise (fun p q => p.1 ≠ q.1 ∧ ah p q = true) := by
  rw [List.pairwise_iff_getElem]
  intro i j hi hj hij
  exact h.2.2 i j _ _ hij (List.getElem?_eq_getElem hi) (List.getElem?_eq_getElem hj)
theorem fnd_mem {L : List Hv} {k : Int} (h : ¬ fndN L k < L.length) : ∀ r ∈ L, r.1 ≠ k := by
  intro r hr
  obtain ⟨i, hi⟩ := List.getElem?_of_mem hr
  exact fndN_not L k (by have := fndN_le L k; omega) i r hi
theorem rest_all {L : List Hv} {k : Int} (h : ∀ r ∈ L, r.1 ≠ k) : addRest L k = L := by
  unfold addRest
  rw [List.filter_eq_self]
  intro r hr
  exact decide_eq_true (h r hr)
theorem rest_key {L : List Hv} {k : Int} {r : Hv} (h : r ∈ addRest L k) : r.1 ≠ k := by
  unfold addRest at h
  exact of_decide_eq_true (List.mem_filter.1 h).2
theorem base_sub (L : List Hv) (k : Int) : (addBase L k).Sublist L := by
  unfold addBase addRest
  split
  · exact List.filter_sublist
  · split
    · exact List.take_sublist _ _
    · exact List.Sublist.refl _
theorem base_key {L : List Hv} {k : Int} {r : Hv} (h : r ∈ addBase L k) : r.1 ≠ k := by
  unfold addBase at h
  by_cases e : fndN L k < L.length
  · rw [if_pos e] at h; exact rest_key h
  · rw [if_neg e] at h
    split at h
    · exact fnd_mem e r (List.mem_of_mem_take h)
    · exact fnd_mem e r h
theorem new_key (L : List Hv) (k n : Int) : (addNew L k n).1 = k := by unfold addNew; split <;> (try split) <;> rfl
/-- The elements as the program holds them before it sorts. -/
def prgS (L : List Hv) (k n : Int) : List Hv :=
  if fndN L k < L.length then L.set (fndN L k) (addNew L k n) else if L.length = 4 then L.set 3 (addNew L k n) else L ++ [addNew L k n]
theorem set_perm (h : Hv) (k : Int) : ∀ (L : List Hv) (p : Nat) (r : Hv), L[p]? = some r → r.1 = k → L.Pairwise (fun p q => p.1 ≠ q.1) → (L.set p h).Perm (h :: addRest L k)
  | [], _, _, hr, _, _ => by simp at hr
  | q :: L, 0, r, hr, hk, hp => by
    simp only [List.getElem?_cons_zero, Option.some.injEq] at hr
    subst hr
    obtain ⟨h1, _⟩ := List.pairwise_cons.1 hp
    have e : addRest (q :: L) k = L := by
      unfold addRest
      rw [List.filter_cons_of_neg (by rw [decide_eq_true_iff]; exact fun hne => hne hk)]
      exact rest_all fun x hx => fun e => h1 x hx (by rw [hk, e])
    rw [e]
    exact List.Perm.refl _
  | q :: L, p + 1, r, hr, hk, hp => by
    obtain ⟨h1, h2⟩ := List.pairwise_cons.1 hp
    have hr' : L[p]? = some r := by simpa using hr
    have hq : q.1 ≠ k := fun e => h1 r (List.mem_of_getElem? hr') (by rw [e, hk])
    have e : addRest (q :: L) k = q :: addRest L k := by
      unfold addRest
      rw [List.filter_cons_of_pos (by exact decide_eq_true hq)]
    rw [e]
    exact ((set_perm h k L p r hr' hk h2).cons q).trans (List.Perm.swap h q _)
theorem prgS_perm {L : List Hv} (hL : TopP L) (k n : Int) : (prgS L k n).Perm (addNew L k n :: addBase L k) := by
  unfold prgS addBase
  by_cases e : fndN L k < L.length
  · rw [if_pos e, if_pos e]
    obtain ⟨⟨r, h1, h2⟩, _⟩ := fndN_spec L k e
    exact set_perm _ k L _ r h1 h2 (hL.pair.imp fun h => h.1)
  · rw [if_neg e, if_neg e]
    by_cases e4 : L.length = 4
    · rw [if_pos e4, if_pos e4]
      match L, e4 with
      | [a, b, c, d], _ => exact List.perm_append_singleton (addNew [a, b, c, d] k n) [a, b, c]
    · rw [if_neg e4, if_neg e4]
      exact List.perm_append_singleton _ _
theorem prgS_len {L : List Hv} (hL : TopP L) (k n : Int) : (prgS L k n).length ≤ 4 := by
  have := hL.1
  unfold prgS
  split
  · rw [List.length_set]; exact this
  · split
    · rw [List.length_set]; exact this
    · rw [List.length_append]; simp; omega
/-- However the program's elements are sorted, they are what the model puts together. -/
theorem sorted_out {L S : List Hv} (hL : TopP L) (k n : Int) (hp : S.Perm (prgS L k n)) (hs : S.Pairwise (fun p q => ah q p = false)) : S = addOut L k n := by
  have hp2 : S.Perm (addOut L k n) := (hp.trans (prgS_perm hL k n)).trans (insH_perm _ _).symm
  have hb : (addBase L k).Pairwise (fun p q => p.1 ≠ q.1 ∧ ah p q = true) := hL.pair.sublist (base_sub L k)
  have ho : (addOut L k n).Pairwise (fun p q => ah p q = true) := insH_sorted _ _ (hb.imp fun h => h.2) (fun r hr => by rw [new_key]; exact fun e => base_key hr e.symm)
  refine List.Perm.eq_of_pairwise (le := fun p q => ah q p = false) (fun a b ha hb2 h1 h2 => ?_) hs (ho.imp fun h => ah_asym h) hp2
  have ha' : a ∈ addOut L k n := hp2.mem_iff.1 ha
  obtain ⟨i, hi⟩ := List.getElem?_of_mem ha'
  obtain ⟨j, hj⟩ := List.getElem?_of_mem hb2
  have hio := lt_of_at hi
  have hjo := lt_of_at hj
  rw [List.pairwise_iff_getElem] at ho
  rw [List.getElem?_eq_getElem hio] at hi
  rw [List.getElem?_eq_getElem hjo] at hj
  obtain rfl := Option.some.inj hi
  obtain rfl := Option.some.inj hj
  rcases Nat.lt_trichotomy i j with h | h | h
  · rw [ho i j hio hjo h] at h2; simp at h2
  · subst h; rfl
  · rw [ho j i hjo hio h] at h1; simp at h1
theorem addOut_len {L : List Hv} (hL : TopP L) (k n : Int) : (addOut L k n).length ≤ 4 := by
  have h1 := (prgS_perm hL k n).length_eq
  have h2 := prgS_len hL k n
  unfold addOut
  rw [insH_len]
  rw [List.length_cons] at h1
  omega
theorem addL_len (L : List Hv) (k n : Int) : (addL L k n).length ≤ L.length + 4 := by
  unfold addL
  split
  · rename_i h
    unfold addB at h
    rw [Bool.and_eq_true, topB_iff] at h
    have := addOut_len h.1 k n
    omega
  · omega
/-- The element that comes in, as the model finds it among the first i. -/
def hK (L : List Hv) (k n : Int) : Nat → Hv
  | 0 => (k, n, 0)
  | i + 1 => if (L.getD i (0, 0, 0)).1 = k then ((L.getD i (0, 0, 0)).1, (L.getD i (0, 0, 0)).2.1 + n, (L.getD i (0, 0, 0)).2.2) else hK L k n i
theorem hK_at {L : List Hv} {k n : Int} {i : Nat} {a b c : Int} (h : L[i]? = some (a, b, c)) : hK L k n (i + 1) = if a = k then (a, b + n, c) else hK L k n i := by
  show (if _ then _ else _) = _
  rw [List.getD_eq_getElem?_getD, h]
  rfl
theorem getD_at {L : List Hv} {i : Nat} {r d : Hv} (h : L[i]? = some r) : L.getD i d = r := by rw [List.getD_eq_getElem?_getD, h]; rfl
theorem hK_end {L : List Hv} (hL : TopP L) (k n : Int) : ∀ i, i ≤ L.length → hK L k n i = if fndN L k < i then (k, (L.getD (fndN L k) (0, 0, 0)).2.1 + n, (L.getD (fndN L k) (0, 0, 0)).2.2) else (k, n, 0)
  | 0, _ => by rw [if_neg (by omega)]; rfl
  | i + 1, hi => by
    obtain ⟨a, b, c, hr⟩ := at_of_lt (L := L) (i := i) (by omega)
    rw [hK_at hr, hK_end hL k n i (by omega)]
    by_cases e : a = k
    · have hf : fndN L k = i := fndN_uniq L k i _ hr e (fun j p hj hp => by have := hL.key i j p _ hj hp hr; rw [← e]; exact this)
      rw [if_pos e, hf, if_pos (by omega), getD_at hr, e]
    · have hf : fndN L k ≠ i := fun hf => by
        obtain ⟨⟨r, h1, h2⟩, _⟩ := fndN_spec L k (by omega)
        rw [hf, hr] at h1
        obtain rfl := Option.some.inj h1
        exact e h2
      rw [if_neg e]
      by_cases e2 : fndN L k < i
      · rw [if_pos e2, if_pos (by omega)]
      · rw [if_neg e2, if_neg (by omega)]
theorem rest_snoc {L : List Hv} {k : Int} {i : Nat} {r : Hv} (h : L[i]? = some r) : addRest (L.take (i + 1)) k = if r.1 = k then addRest (L.take i) k else addRest (L.take i) k ++ [r] := by
  rw [take_snoc3 h]
  unfold addRest
  rw [List.filter_append]
  by_cases e : r.1 = k
  · rw [if_pos e, List.filter_cons_of_neg (by rw [decide_eq_true_iff]; exact fun hne => hne e)]
    simp
  · rw [if_neg e, List.filter_cons_of_pos (by exact decide_eq_true e)]
    rfl
theorem rest_full {L : List Hv} (hL : TopP L) (k : Int) : (addRest L k).length = 4 → ¬ fndN L k < L.length ∧ L.length = 4 := by
  intro h
  have h0 := hL.1
  have h1 : (addRest L k).length ≤ L.length := List.length_filter_le _ _
  refine ⟨fun e => ?_, by omega⟩
  obtain ⟨⟨r, h2, h3⟩, _⟩ := fndN_spec L k e
  have h4 := (set_perm r k L _ r h2 h3 (hL.pair.imp fun h => h.1)).length_eq
  rw [List.length_set, List.length_cons] at h4
  omega
theorem rest_less {L : List Hv} (k : Int) (h : (addRest L k).length ≠ 4) : addBase L k = addRest L k := by
  unfold addBase
  by_cases e : fndN L k < L.length
  · rw [if_pos e]
  · have := rest_all (fnd_mem e)
    rw [if_neg e, if_neg (by rw [this] at h; exact h), this]
theorem new_less {L : List Hv} (hL : TopP L) (k n : Int) (h : (addRest L k).length ≠ 4) : hK L k n L.length = addNew L k n := by
  rw [hK_end hL k n _ (Nat.le_refl _)]
  unfold addNew
  by_cases e : fndN L k < L.length
  · rw [if_pos e, if_pos e]
  · have := rest_all (fnd_mem e)
    rw [if_neg e, if_neg e, if_neg (by rw [this] at h; exact h)]
theorem full_parts {L : List Hv} (hL : TopP L) (k n : Int) (h : (addRest L k).length = 4) : addRest L k = L ∧ addBase L k = L.take 3 ∧ addNew L k n = (k, (L.getD 3 (0, 0, 0)).2.1 + n, (L.getD 3 (0, 0, 0)).2.1) := by
  obtain ⟨h1, h2⟩ := rest_full hL k h
  refine ⟨rest_all (fnd_mem h1), ?_, ?_⟩
  · unfold addBase; rw [if_neg h1, if_pos h2]
  · unfold addNew; rw [if_neg h1, if_pos h2]
/-- Whether the new element has been put. -/
def putB (h : Hv) (B : List Hv) : Bool := B.any fun r => ah h r
/-- What has been gathered behind the elements B. -/
def outK (h : Hv) (B : List Hv) : List Hv := if putB h B = true then insH h B else B
theorem insH_none (h : Hv) (C : List Hv) : ∀ B, putB h B = false → insH h (B ++ C) = B ++ insH h C
  | [], _ => rfl
  | r :: B, hn => by
    unfold putB at hn
    rw [List.any_cons, Bool.or_eq_false_iff] at hn
    show (if _ then _ else _) = _
    rw [if_neg (by rw [hn.1]; simp)]
    show r :: insH h (B ++ C) = _
    rw [insH_none h C B hn.2]
    rfl
theorem insH_yes (h : Hv) (C : List Hv) : ∀ B, putB h B = true → insH h (B ++ C) = insH h B ++ C
  | [], hn => by simp [putB] at hn
  | r :: B, hn => by
    show (if _ then _ else _) = (if _ then _ else _) ++ _
    by_cases e : ah h r = true
    · rw [if_pos e, if_pos e]; rfl
    · rw [if_neg e, if_neg e]
      rw [Bool.not_eq_true] at e
      unfold putB at hn
      rw [List.any_cons, e, Bool.false_or] at hn
      show r :: insH h (B ++ C) = _
      rw [insH_yes h C B hn]
      rfl
theorem putB_snoc (h r : Hv) (B : List Hv) : putB h (B ++ [r]) = (putB h B || ah h r) := by unfold putB; rw [List.any_append]; simp
theorem outK_put {h r : Hv} {B : List Hv} (h1 : putB h B = true) : outK h (B ++ [r]) = outK h B ++ [r] := by
  unfold outK
  rw [if_pos (by rw [putB_snoc, h1]; rfl), if_pos h1, insH_yes h [r] B h1]
theorem outK_now {h r : Hv} {B : List Hv} (h1 : putB h B = false) (h2 : ah h r = true) : outK h (B ++ [r]) = outK h B ++ [h] ++ [r] := by
  unfold outK
  rw [if_pos (by rw [putB_snoc, h2, Bool.or_true]), if_neg (by rw [h1]; simp), insH_none h [r] B h1]
  show B ++ (if _ then _ else _) = _
  rw [if_pos h2]
  simp
theorem outK_not {h r : Hv} {B : List Hv} (h1 : putB h B = false) (h2 : ah h r = false) : outK h (B ++ [r]) = outK h B ++ [r] := by
  unfold outK
  rw [if_neg (by rw [putB_snoc, h1, h2]; simp), if_neg (by rw [h1]; simp)]
theorem outK_end_put {h : Hv} {B : List Hv} (h1 : putB h B = true) : outK h B = insH h B := by unfold outK; rw [if_pos h1]
theorem outK_end_not {h : Hv} {B : List Hv} (h1 : putB h B = false) : outK h B ++ [h] = insH h B := by
  unfold outK
  rw [if_neg (by rw [h1]; simp)]
  have := insH_none h [] B h1
  rw [List.append_nil] at this
  rw [this]
  rfl

end Go.Proofs.Ytophppnllkadoaa
