/- Plain mathematics: the place of a route in a table; a table without it. -/
import Derived.Test.YtgdnfglhlpnooaaPb
import Derived.Test.YtgdnfglhlpnooaaWt
namespace Go.Proofs.Ytgdnfglhlpnooaa
open Go.RowKit


theorem ahP_iff {a b c d : Int} : ahP a b c d = true ↔ a < c ∨ (a = c ∧ b < d) := by unfold ahP; simp [Bool.or_eq_true, Bool.and_eq_true]
theorem ahP_trans {a b c d e f : Int} (h1 : ahP a b c d = true) (h2 : ahP c d e f = true) : ahP a b e f = true := by rw [ahP_iff] at *; omega
theorem lt_of_at {L : List Rt} {i : Nat} {r : Rt} (hr : L[i]? = some r) : i < L.length := by
  rcases Nat.lt_or_ge i L.length with h1 | h1
  · exact h1
  · rw [List.getElem?_eq_none h1] at hr; simp at hr
theorem tok_parts {L : List Rt} (h : tok L = true) : L.length ≤ 120 ∧ ∀ i, i < L.length → chk L i = true := by
  unfold tok at h
  rw [Bool.and_eq_true, decide_eq_true_iff, List.all_eq_true] at h
  exact ⟨h.1, fun i hi => h.2 i (List.mem_range.2 hi)⟩
theorem tok_step {L : List Rt} {i : Nat} {p r : Rt} (h : tok L = true) (hp : L[i]? = some p) (hr : L[i + 1]? = some r) : ahd p r = true := by
  have := (tok_parts h).2 (i + 1) (lt_of_at hr)
  rw [chk_prev hr hp, Bool.and_eq_true] at this
  exact this.2
/-- The routes stand in their order. -/
def Srt (L : List Rt) : Prop := ∀ (i j : Nat) (p r : Rt), i < j → L[i]? = some p → L[j]? = some r → ahd p r = true
theorem tok_rise {L : List Rt} (h : tok L = true) {i : Nat} {p : Rt} (hp : L[i]? = some p) : ∀ (d : Nat) (r : Rt), L[i + d + 1]? = some r → ahd p r = true
  | 0, r, hr => tok_step h hp hr
  | d + 1, r, hr => by
    have hl := lt_of_at hr
    obtain ⟨q, hq⟩ : ∃ q, L[i + d + 1]? = some q := ⟨L[i + d + 1]'(by omega), List.getElem?_eq_getElem _⟩
    have h1 := tok_rise h hp d _ hq
    have h2 := tok_step h hq hr
    exact ahP_trans h1 h2
theorem tok_srt {L : List Rt} (h : tok L = true) : Srt L := by
  intro i j p r hij hp hr
  exact tok_rise h hp (j - i - 1) r (by rw [show i + (j - i - 1) + 1 = j by omega]; exact hr)
theorem Srt.tail {r : Rt} {L : List Rt} (h : Srt (r :: L)) : Srt L := fun i j p q hij hp hq => h (i + 1) (j + 1) p q (by omega) (by simpa using hp) (by simpa using hq)
theorem Srt.head {r : Rt} {L : List Rt} (h : Srt (r :: L)) {q : Rt} (hq : q ∈ L) : ahd r q = true := by
  obtain ⟨i, hi⟩ := List.getElem?_of_mem hq
  exact h 0 (i + 1) r q (by omega) rfl (by simpa using hi)
/-- How many routes stand ahead of a prefix. -/
def plc : List Rt → Int → Int → Nat
  | [], _, _ => 0
  | r :: L, pn, pl => if ahP r.1 r.2.1 pn pl = true then plc L pn pl + 1 else 0
theorem plc_uniq : ∀ (L : List Rt) (pn pl : Int) (i : Nat), i ≤ L.length → (∀ k r, k < i → L[k]? = some r → ahP r.1 r.2.1 pn pl = true) → (∀ r, L[i]? = some r → ahP r.1 r.2.1 pn pl = false) → plc L pn pl = i
  | [], pn, pl, i, hi, _, _ => by simp at hi; subst hi; rfl
  | r :: L, pn, pl, 0, _, _, h2 => by
    have := h2 r rfl
    show (if _ then _ else _) = 0
    rw [if_neg (by rw [this]; simp)]
  | r :: L, pn, pl, i + 1, hi, h1, h2 => by
    have := h1 0 r (by omega) rfl
    show (if _ then _ else _) = _
    rw [if_pos this, plc_uniq L pn pl i (by simp at hi; omega) (fun k q hk hq => h1 (k + 1) q (by omega) (by simpa using hq)) (fun q hq => h2 q (by simpa using hq))]
theorem plc_le : ∀ (L : List Rt) (pn pl : Int), plc L pn pl ≤ L.length
  | [], _, _ => Nat.le_refl _
  | r :: L, pn, pl => by
    have := plc_le L pn pl
    show (if _ then _ else _) ≤ _
    split <;> simp <;> omega
/-- Whether there is a route of that prefix. -/
def fndB (L : List Rt) (pn pl : Int) : Bool := match L[plc L pn pl]? with
  | some r => decide (r.1 = pn) && decide (r.2.1 = pl)
  | none => false
theorem fndB_at {L : List Rt} {pn pl : Int} {r : Rt} (h : L[plc L pn pl]? = some r) : fndB L pn pl = (decide (r.1 = pn) && decide (r.2.1 = pl)) := by unfold fndB; rw [h]
theorem fndB_none {L : List Rt} {pn pl : Int} (h : L.length ≤ plc L pn pl) : fndB L pn pl = false := by unfold fndB; rw [List.getElem?_eq_none h]
theorem fndB_lt {L : List Rt} {pn pl : Int} (h : fndB L pn pl = true) : plc L pn pl < L.length := by
  rcases Nat.lt_or_ge (plc L pn pl) L.length with h1 | h1
  · exact h1
  · rw [fndB_none h1] at h; simp at h
theorem notP_iff {pn pl : Int} {r : Rt} : notP pn pl r = true ↔ ¬ (r.1 = pn ∧ r.2.1 = pl) := by
  unfold notP
  rw [Bool.not_eq_true', ← Bool.not_eq_true, Bool.and_eq_true, decide_eq_true_iff, decide_eq_true_iff]
theorem filter_all {L : List Rt} {pn pl : Int} (h : ∀ q ∈ L, notP pn pl q = true) : L.filter (notP pn pl) = L := List.filter_eq_self.2 h
/-- A table without a prefix: its route, where there is one, is taken out. -/
theorem less_eq : ∀ (L : List Rt) (pn pl : Int), Srt L → L.filter (notP pn pl) = if fndB L pn pl = true then L.eraseIdx (plc L pn pl) else L
  | [], pn, pl, _ => by simp
  | r :: L, pn, pl, hs => by
    by_cases h : ahP r.1 r.2.1 pn pl = true
    · have hp : plc (r :: L) pn pl = plc L pn pl + 1 := by show (if _ then _ else _) = _; rw [if_pos h]
      have hf : fndB (r :: L) pn pl = fndB L pn pl := by unfold fndB; rw [hp]; simp
      have hn : notP pn pl r = true := by rw [notP_iff]; rw [ahP_iff] at h; omega
      rw [List.filter_cons, if_pos hn, less_eq L pn pl hs.tail, hf, hp]
      split <;> rfl
    · have hp : plc (r :: L) pn pl = 0 := by show (if _ then _ else _) = _; rw [if_neg h]
      have hf : fndB (r :: L) pn pl = (decide (r.1 = pn) && decide (r.2.1 = pl)) := fndB_at (by rw [hp]; rfl)
      have hall : L.filter (notP pn pl) = L := filter_all (fun q hq => by
        have h1 : ahP r.1 r.2.1 q.1 q.2.1 = true := hs.head hq
        rw [notP_iff]
        rw [ahP_iff] at h h1
        omega)
      rw [List.filter_cons, hall, hf, hp]
      by_cases he : r.1 = pn ∧ r.2.1 = pl
      · rw [if_neg (by rw [notP_iff]; exact fun h => h he), if_pos (by rw [Bool.and_eq_true, decide_eq_true_iff, decide_eq_true_iff]; exact he)]
        rfl
      · rw [if_pos (notP_iff.2 he), if_neg (by rw [Bool.and_eq_true, decide_eq_true_iff, decide_eq_true_iff]; exact he)]
/-- What DropRoute answers. -/
def drpL (L : List Rt) (pn pl : Int) : List Rt := if tok L = true ∧ fndB L pn pl = true then L.eraseIdx (plc L pn pl) else L
def drpB (L : List Rt) (pn pl : Int) : Bool := tok L && fndB L pn pl
theorem drp_yes {L : List Rt} {pn pl : Int} (h1 : tok L = true) (h2 : fndB L pn pl = true) : drpL L pn pl = L.eraseIdx (plc L pn pl) ∧ drpB L pn pl = true ∧ L.filter (notP pn pl) = L.eraseIdx (plc L pn pl) ∧ (L.filter (notP pn pl)).length ≠ L.length := by
  have h3 : L.filter (notP pn pl) = L.eraseIdx (plc L pn pl) := by rw [less_eq L pn pl (tok_srt h1), if_pos h2]
  refine ⟨if_pos ⟨h1, h2⟩, by unfold drpB; rw [h1, h2]; rfl, h3, ?_⟩
  rw [h3, List.length_eraseIdx, if_pos (fndB_lt h2)]
  have := fndB_lt h2
  omega
theorem drp_no {L : List Rt} {pn pl : Int} (h1 : tok L = true) (h2 : fndB L pn pl = false) : drpL L pn pl = L ∧ drpB L pn pl = false ∧ L.filter (notP pn pl) = L := by
  have h3 : L.filter (notP pn pl) = L := by rw [less_eq L pn pl (tok_srt h1), if_neg (by rw [h2]; simp)]
  exact ⟨if_neg (by rw [h2]; simp), by unfold drpB; rw [h1, h2]; rfl, h3⟩
theorem drp_bad {L : List Rt} {pn pl : Int} (h1 : tok L = false) : drpL L pn pl = L ∧ drpB L pn pl = false := ⟨if_neg (by rw [h1]; simp), by unfold drpB; rw [h1]; rfl⟩
theorem drpL_len (L : List Rt) (pn pl : Int) : (drpL L pn pl).length ≤ L.length := by
  unfold drpL
  split
  · rw [List.length_eraseIdx]; split <;> omega
  · exact Nat.le_refl _
theorem cmpP_lt {a b c d : Int} : cmpP a b c d < 0 ↔ ahP a b c d = true := by
  have h := cmpP_ah a b c d
  by_cases h1 : ahP a b c d = true
  · rw [h1, Bool.not_true, decide_eq_false_iff_not] at h
    exact ⟨fun _ => h1, fun _ => by omega⟩
  · rw [Bool.not_eq_true] at h1
    rw [h1, Bool.not_false, decide_eq_true_iff] at h
    exact ⟨fun h2 => by omega, fun h2 => by rw [h1] at h2; simp at h2⟩
theorem cmpP_zero {a b c d : Int} : cmpP a b c d = 0 ↔ a = c ∧ b = d := by
  unfold cmpP orI cmpI
  constructor
  · intro h
    split at h <;> rename_i h1 <;> (try split at h) <;> (try split at h1) <;> (try split at h1) <;> (try omega)
    all_goals (try (split at h <;> omega))
  · rintro ⟨rfl, rfl⟩
    simp

end Go.Proofs.Ytgdnfglhlpnooaa
