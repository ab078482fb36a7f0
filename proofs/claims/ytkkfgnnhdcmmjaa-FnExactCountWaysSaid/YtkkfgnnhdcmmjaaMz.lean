/- Plain mathematics: the way that both sides answer, and that there is one alone. It imports no program. -/
import Derived.Test.YtkkfgnnhdcmmjaaMu
namespace Go.Proofs.Ytkkfgnnhdcmmjaa

theorem stp.uniq {N : Int} {L : List Ed} {o x k k' : Int} (h : stp N L o x k) (h' : stp N L o x k') : k = k' := by
  obtain ⟨⟨l, a1, a2⟩, a3⟩ := h
  obtain ⟨⟨l', b1, b2⟩, b3⟩ := h'
  have := a3 l' b1
  have := b3 l a1
  omega
theorem stp.ex {N : Int} {L : List Ed} {o x : Int} (hG : gok N L = true) (ho : 0 ≤ o ∧ o < N) (hx : 0 ≤ x ∧ x < N) (hd : dsT N L x o ≠ Far) : ∃ k, stp N L o x k := by
  obtain ⟨l, hl⟩ := Sh.ex hG ho hx hd
  obtain ⟨k, ⟨l2, h1, h2⟩, h3⟩ := least_int (fun k => ∃ l, Sh N L o (x :: l) ∧ (l.length : Int) + 1 = k) (l.length + 2) ⟨(l.length : Int) + 1, by omega, by omega, l, hl, rfl⟩ (fun y ⟨l, _, h⟩ => by omega)
  refine ⟨k, ⟨l2, h1, h2⟩, fun l3 h4 => ?_⟩
  have := h3 ((l3.length : Int) + 1)
  by_cases e : (l3.length : Int) + 1 < k
  · exact absurd ⟨l3, h4, rfl⟩ (this e)
  · omega
theorem stpT.ex {N : Int} {L : List Ed} {o : Int} (hG : gok N L = true) (ho : 0 ≤ o ∧ o < N) : ∃ S : Int → Int, ∀ x, 0 ≤ x ∧ x < N → dsT N L x o ≠ Far → stp N L o x (S x) := by
  have h : ∀ x, ∃ k, (0 ≤ x ∧ x < N) → dsT N L x o ≠ Far → stp N L o x k := fun x => by
    by_cases hx : 0 ≤ x ∧ x < N
    · by_cases hd : dsT N L x o ≠ Far
      · obtain ⟨k, hk⟩ := stp.ex hG ho hx hd
        exact ⟨k, fun _ _ => hk⟩
      · exact ⟨0, fun _ h => absurd h hd⟩
    · exact ⟨0, fun h => absurd h hx⟩
  exact ⟨fun x => Classical.choose (h x), fun x => Classical.choose_spec (h x)⟩
theorem Gw.congr {N : Int} {L : List Ed} {o : Int} {S S' : Int → Int} (hG : gok N L = true) (h : ∀ x, 0 ≤ x ∧ x < N → dsT N L x o ≠ Far → S x = S' x) : ∀ {l : List Int}, Gw N L o S l → Gw N L o S' l
  | _, .one => .one
  | _, .cons x y l hx hn hm hg => by
    have hf := hn.1.facts hG
    have ex := h x hf.1 hf.2.2.2
    refine .cons x y l hx ⟨hn.1, ?_⟩ (fun z hz hh => hm z hz ⟨hh.1, ?_⟩) (hg.congr hG h)
    · rw [← ex, ← h y hf.2.1 hn.1.2.1]; exact hn.2
    · have hfz := hh.1.facts hG
      rw [ex, h z hfz.2.1 hh.1.2.1]; exact hh.2
theorem Gw.uniq {N : Int} {L : List Ed} {o : Int} {S : Int → Int} : ∀ {l l' : List Int} {x : Int}, Gw N L o S (x :: l) → Gw N L o S (x :: l') → l = l'
  | [], l', x, h, h' => by
    cases h
    cases h' with
    | one => rfl
    | cons _ y l hx _ _ _ => exact absurd rfl hx
  | y :: l, l', x, h, h' => by
    cases h with
    | cons _ _ _ hx hn hm hg =>
      cases h' with
      | one => exact absurd rfl hx
      | cons _ z l2 _ hn2 hm2 hg2 =>
        have e : y = z := by
          have a := fun hl => hm z hl hn2
          have b := fun hl => hm2 y hl hn
          by_cases h1 : y < z
          · exact absurd h1 (fun h => b h)
          · by_cases h2 : z < y
            · exact absurd h2 (fun h => a h)
            · omega
        subst e
        rw [hg.uniq hg2]
theorem Gw.sh {N : Int} {L : List Ed} {o : Int} {S : Int → Int} : ∀ {l : List Int}, Gw N L o S l → Sh N L o l
  | _, .one => .one
  | _, .cons x y l _ hn _ hg => .cons x y l hn.1 hg.sh
theorem Sh.nodes {N : Int} {L : List Ed} {o : Int} (hG : gok N L = true) (ho : 0 ≤ o ∧ o < N) : ∀ {l : List Int} {x : Int}, Sh N L o (x :: l) → (0 ≤ x ∧ x < N) ∧ (∀ z ∈ l, (0 ≤ z ∧ z < N) ∧ dsT N L z o < dsT N L x o) ∧ (x :: l).Nodup
  | [], x, h => by
    cases h
    exact ⟨ho, fun z hz => absurd hz List.not_mem_nil, by simp⟩
  | y :: l, x, h => by
    cases h with
    | cons _ _ _ ht hs =>
      have hf := ht.facts hG
      obtain ⟨h1, h2, h3⟩ := hs.nodes hG ho
      have h4 : ∀ z ∈ y :: l, (0 ≤ z ∧ z < N) ∧ dsT N L z o < dsT N L x o := fun z hz => by
        rcases List.mem_cons.1 hz with rfl | hz
        · exact ⟨h1, hf.2.2.1⟩
        · have := h2 z hz
          exact ⟨this.1, by have := hf.2.2.1; omega⟩
      refine ⟨hf.1, h4, List.nodup_cons.2 ⟨fun hx => ?_, h3⟩⟩
      have := (h4 x hx).2
      omega
theorem Sh.len {N : Int} {L : List Ed} {o x : Int} {l : List Int} (hG : gok N L = true) (ho : 0 ≤ o ∧ o < N) (h : Sh N L o (x :: l)) : l.length + 1 ≤ N.toNat := by
  obtain ⟨h1, h2, h3⟩ := h.nodes hG ho
  have := nodup_bound N.toNat (x :: l) h3 (fun z hz => by
    rcases List.mem_cons.1 hz with rfl | hz
    · omega
    · have := (h2 z hz).1; omega)
  simpa using this
/-- The way that both sides answer. -/
def WayP (N : Int) (L : List Ed) (s o : Int) (l : List Int) : Prop := ∃ S : Int → Int, (∀ x, 0 ≤ x ∧ x < N → dsT N L x o ≠ Far → stp N L o x (S x)) ∧ Gw N L o S (s :: l)
theorem WayP.ex {N : Int} {L : List Ed} {s o : Int} (hG : gok N L = true) (hs : 0 ≤ s ∧ s < N) (ho : 0 ≤ o ∧ o < N) (hd : dsT N L s o ≠ Far) : ∃ l, WayP N L s o l := by
  obtain ⟨S, hS⟩ := stpT.ex hG ho
  obtain ⟨l, h, _⟩ := Gw.ex hG ho hS (S s).toNat s hs hd (by omega)
  exact ⟨l, S, hS, h⟩
theorem WayP.len {N : Int} {L : List Ed} {s o : Int} {l : List Int} (hG : gok N L = true) (ho : 0 ≤ o ∧ o < N) (h : WayP N L s o l) : l.length + 1 ≤ N.toNat := by
  obtain ⟨S, _, h⟩ := h
  exact h.sh.len hG ho
/-- The way by the steps that a run reckoned. -/
theorem WayP.to {N : Int} {L : List Ed} {s o : Int} {l : List Int} {S : Int → Int} (hG : gok N L = true) (hS : ∀ x, 0 ≤ x ∧ x < N → dsT N L x o ≠ Far → stp N L o x (S x)) (h : WayP N L s o l) : Gw N L o S (s :: l) := by
  obtain ⟨S', hS', hg⟩ := h
  exact hg.congr hG fun x hx hd => (hS' x hx hd).uniq (hS x hx hd)
theorem WayP.uniq {N : Int} {L : List Ed} {s o : Int} {l l' : List Int} (hG : gok N L = true) (h : WayP N L s o l) (h' : WayP N L s o l') : l = l' := by
  obtain ⟨S, hS, hg⟩ := h
  exact hg.uniq (h'.to hG hS)
theorem WayP.found {N : Int} {L : List Ed} {s o : Int} {l : List Int} {P : List Tr} {t : Tr} (hG : gok N L = true) (hs : 0 ≤ s ∧ s < N) (ho : 0 ≤ o ∧ o < N) (h : WayP N L s o l) (hF : Found L s P) (ht : t ∈ P) (hl : lastN t = o) : t.2 = s :: l := by
  obtain ⟨S, hS, hg⟩ := h
  exact Gw.found hG hs ho hS hF ht hl hg
end Go.Proofs.Ytkkfgnnhdcmmjaa
