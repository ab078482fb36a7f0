/- Plain mathematics: the program's ways, step by step, come to the model's. It imports no program. -/
import Derived.Test.YtjenjdhoblcohaaMf
namespace Go.Proofs.Ytjenjdhoblcohaa

/-- A trail up to a node that it meets. -/
theorem IsTr.upto {N : Int} {L : List Ed} {s : Int} (hG : gok N L = true) {t : Tr} (h : IsTr L s t) {y : Int} (hy : y ∈ t.2) : ∃ t', IsTr L s t' ∧ lastN t' = y ∧ t'.1 ≤ t.1 ∧ ∃ r, t.2 = t'.2 ++ r := by
  induction h with
  | one =>
    rw [List.mem_singleton] at hy
    subst hy
    exact ⟨(0, [y]), .one, by simp [lastN], Int.le_refl _, [], by simp⟩
  | ext u z hu hc ih =>
    have hpos := (cst_bound hG (lastN u) z).1
    rw [show (extT L u z).2 = u.2 ++ [z] from rfl, List.mem_append, List.mem_singleton] at hy
    rcases hy with hy | rfl
    · obtain ⟨t', h1, h2, h3, r, h4⟩ := ih hy
      exact ⟨t', h1, h2, by show t'.1 ≤ u.1 + cst L (lastN u) z; omega, r ++ [z], by show u.2 ++ [z] = _; rw [h4, List.append_assoc]⟩
    · exact ⟨extT L u y, .ext u y hu hc, lastN_ext L u y, Int.le_refl _, [], by simp⟩
/-- No dearer, and no node twice. -/
theorem IsTr.simple {N : Int} {L : List Ed} {s : Int} (hG : gok N L = true) {u : Tr} (h : IsTr L s u) : ∃ t, IsTr L s t ∧ lastN t = lastN u ∧ t.1 ≤ u.1 ∧ t.2.Pairwise (fun a b => a ≠ b) := by
  induction h with
  | one => exact ⟨(0, [s]), .one, rfl, Int.le_refl _, List.pairwise_singleton _ _⟩
  | ext u y hu hc ih =>
    obtain ⟨t, h1, h2, h3, h4⟩ := ih
    have hpos := (cst_bound hG (lastN u) y).1
    by_cases hy : y ∈ t.2
    · obtain ⟨t', g1, g2, g3, r, g4⟩ := h1.upto hG hy
      refine ⟨t', g1, by rw [g2, lastN_ext], by show t'.1 ≤ u.1 + cst L (lastN u) y; omega, ?_⟩
      rw [g4, List.pairwise_append] at h4
      exact h4.1
    · refine ⟨extT L t y, .ext t y h1 (by rw [h2]; exact hc), by rw [lastN_ext, lastN_ext], by show t.1 + cst L (lastN t) y ≤ u.1 + cst L (lastN u) y; rw [h2]; omega, ?_⟩
      show (t.2 ++ [y]).Pairwise _
      rw [List.pairwise_append]
      exact ⟨h4, List.pairwise_singleton _ _, fun a ha b hb => by rw [List.mem_singleton] at hb; subst hb; exact fun e => hy (e ▸ ha)⟩
/-- No trail is cheaper than the distance. -/
theorem dsT_le {N : Int} {L : List Ed} {s : Int} (hG : gok N L = true) (hs : 0 ≤ s ∧ s < N) {u : Tr} (h : IsTr L s u) : dsT N L s (lastN u) ≤ u.1 := by
  obtain ⟨t, h1, h2, h3, h4⟩ := h.simple hG
  obtain ⟨b1, b2, b3, b4, b5⟩ := h1.bounds hG hs
  have hN := gok_parts hG
  have hl : t.2.length ≤ N.toNat := nodup_bound N.toNat t.2 h4 (fun x hx => by have := b5 x hx; omega)
  have hF : t.1 < Far := by unfold Far; omega
  have := rounds_trail hG h1 N.toNat (by omega) hF
  rw [h2] at this
  exact Int.le_trans this h3
theorem dsT_tr {N : Int} {L : List Ed} {s : Int} (hG : gok N L = true) (x : Int) : dsT N L s x = Far ∨ ∃ t, IsTr L s t ∧ lastN t = x ∧ t.1 = dsT N L s x := rounds_sound hG N.toNat x
/-- One trail behind another. -/
theorem IsTr.join {L : List Ed} {s : Int} {t1 : Tr} (h1 : IsTr L s t1) {k : Int} (hk : lastN t1 = k) {t2 : Tr} (h2 : IsTr L k t2) : ∃ u, IsTr L s u ∧ lastN u = lastN t2 ∧ u.1 = t1.1 + t2.1 := by
  induction h2 with
  | one => exact ⟨t1, h1, by rw [hk]; simp [lastN], by simp⟩
  | ext u y hu hc ih =>
    obtain ⟨v, g1, g2, g3⟩ := ih
    exact ⟨extT L v y, .ext v y g1 (by rw [g2]; exact hc), by rw [lastN_ext, lastN_ext], by show v.1 + cst L (lastN v) y = t1.1 + (u.1 + cst L (lastN u) y); rw [g2, g3]; omega⟩
theorem dsT_tri {N : Int} {L : List Ed} {i j k : Int} (hG : gok N L = true) (hi : 0 ≤ i ∧ i < N) (h1 : dsT N L i k < Far) (h2 : dsT N L k j < Far) : dsT N L i j ≤ dsT N L i k + dsT N L k j := by
  rcases dsT_tr hG (s := i) k with e | ⟨t1, a1, a2, a3⟩
  · omega
  rcases dsT_tr hG (s := k) j with e | ⟨t2, b1, b2, b3⟩
  · omega
  obtain ⟨u, c1, c2, c3⟩ := a1.join a2 b1
  have := dsT_le hG hi c1
  rw [c2, b2, c3, a3, b3] at this
  exact this
theorem dsT_self {N : Int} {L : List Ed} {i : Int} (hG : gok N L = true) (hi : 0 ≤ i ∧ i < N) : dsT N L i i = 0 := by
  have h1 := dsT_le hG hi (IsTr.one (L := L) (s := i))
  have h2 : lastN ((0, [i]) : Tr) = i := by simp [lastN]
  rw [h2] at h1
  rcases dsT_tr hG (s := i) i with e | ⟨t, a1, _, a3⟩
  · rw [e] at h1; unfold Far at h1; simp at h1
  · have := (a1.bounds hG hi).2.1
    have h1' : dsT N L i i ≤ 0 := h1
    omega
theorem dsT_edge {N : Int} {L : List Ed} {i j : Int} (hG : gok N L = true) (hi : 0 ≤ i ∧ i < N) (h : cst L i j ≠ Far) : dsT N L i j ≤ cst L i j := by
  have h2 : lastN ((0, [i]) : Tr) = i := by simp [lastN]
  have := dsT_le hG hi (IsTr.ext (L := L) (0, [i]) j .one (by rw [h2]; exact h))
  rw [lastN_ext] at this
  have e : (extT L (0, [i]) j).1 = 0 + cst L (lastN ((0, [i]) : Tr)) j := rfl
  rw [e, h2] at this
  omega

/-- An edge with which a shortest way to o begins. -/
def tgP (N : Int) (L : List Ed) (o x y : Int) : Prop := cst L x y ≠ Far ∧ dsT N L y o ≠ Far ∧ cst L x y + dsT N L y o = dsT N L x o
theorem IsTr.cons {L : List Ed} {x y : Int} {t : Tr} (hc : cst L x y ≠ Far) (h : IsTr L y t) : IsTr L x (cst L x y + t.1, x :: t.2) ∧ lastN (cst L x y + t.1, x :: t.2) = lastN t := by
  induction h with
  | one =>
    have h1 := IsTr.ext (L := L) (0, [x]) y .one (by simpa [lastN] using hc)
    have e : extT L (0, [x]) y = (cst L x y + 0, [x, y]) := by unfold extT; simp [lastN]
    rw [e] at h1
    exact ⟨h1, by simp [lastN]⟩
  | ext u z hu hz ih =>
    obtain ⟨i1, i2⟩ := ih
    have h1 := IsTr.ext _ z i1 (by rw [i2]; exact hz)
    have e : extT L (cst L x y + u.1, x :: u.2) z = (cst L x y + (extT L u z).1, x :: (extT L u z).2) := by
      unfold extT; rw [i2]; simp only [List.cons_append]; rw [Int.add_assoc]
    rw [e] at h1
    refine ⟨h1, ?_⟩
    rw [← e, lastN_ext, lastN_ext]
theorem IsTr.uncons {L : List Ed} {x : Int} {t : Tr} (h : IsTr L x t) : t = (0, [x]) ∨ ∃ y u, cst L x y ≠ Far ∧ IsTr L y u ∧ t = (cst L x y + u.1, x :: u.2) ∧ lastN u = lastN t := by
  induction h with
  | one => exact .inl rfl
  | ext u z hu hz ih =>
    right
    rcases ih with rfl | ⟨y, v, h1, h2, rfl, h4⟩
    · have e1 : lastN ((0, [x]) : Tr) = x := by simp [lastN]
      rw [e1] at hz
      refine ⟨z, (0, [z]), hz, .one, ?_, ?_⟩
      · unfold extT; rw [e1]; simp
      · rw [lastN_ext]; simp [lastN]
    · rw [← h4] at hz
      refine ⟨y, extT L v z, h1, .ext v z h2 hz, ?_, ?_⟩
      · unfold extT; rw [h4]; simp only [List.cons_append]; rw [Int.add_assoc]
      · rw [lastN_ext, lastN_ext]
/-- The nodes of a shortest way to o. -/
inductive Sh (N : Int) (L : List Ed) (o : Int) : List Int → Prop
  | one : Sh N L o [o]
  | cons (x y : Int) (l : List Int) : tgP N L o x y → Sh N L o (y :: l) → Sh N L o (x :: y :: l)
theorem dsT_bnd {N : Int} {L : List Ed} {s : Int} (hG : gok N L = true) (hs : 0 ≤ s ∧ s < N) (x : Int) : 0 ≤ dsT N L s x ∧ dsT N L s x ≤ Far := by
  rcases dsT_tr hG (s := s) x with e | ⟨t, h1, h2, h3⟩
  · rw [e]; unfold Far; omega
  · have := (h1.bounds hG hs).2.1
    refine ⟨by omega, ?_⟩
    have h4 := dsT_le hG hs h1
    obtain ⟨u, g1, g2, g3, g4⟩ := h1.simple hG
    obtain ⟨b1, b2, b3, b4, b5⟩ := g1.bounds hG hs
    have hl : u.2.length ≤ N.toNat := nodup_bound N.toNat u.2 g4 (fun x hx => by have := b5 x hx; omega)
    have hN := gok_parts hG
    have h5 := dsT_le hG hs g1
    rw [g2, h2] at h5
    have : (u.2.length - 1 : Nat) ≤ 9 := by omega
    unfold Far
    omega
theorem tgP.facts {N : Int} {L : List Ed} {o x y : Int} (hG : gok N L = true) (h : tgP N L o x y) : (0 ≤ x ∧ x < N) ∧ (0 ≤ y ∧ y < N) ∧ dsT N L y o < dsT N L x o ∧ dsT N L x o ≠ Far := by
  obtain ⟨h1, h2, h3⟩ := h
  have hn := cst_near hG h1
  have hb := cst_bound hG x y
  refine ⟨hn.1, hn.2.1, by omega, ?_⟩
  rcases dsT_tr hG (s := y) o with e | ⟨t, a1, a2, a3⟩
  · exact absurd e h2
  · obtain ⟨u, g1, g2, g3, g4⟩ := a1.simple hG
    obtain ⟨b1, b2, b3, b4, b5⟩ := g1.bounds hG hn.2.1
    have hl : u.2.length ≤ N.toNat := nodup_bound N.toNat u.2 g4 (fun x hx => by have := b5 x hx; omega)
    have hN := gok_parts hG
    have h5 := dsT_le hG hn.2.1 g1
    rw [g2, a2] at h5
    have : (u.2.length - 1 : Nat) ≤ 9 := by omega
    have := hn.2.2.2
    unfold Far
    omega
theorem Sh.tr {N : Int} {L : List Ed} {o : Int} (hG : gok N L = true) (ho : 0 ≤ o ∧ o < N) : ∀ {l : List Int} {x : Int}, Sh N L o (x :: l) → IsTr L x (dsT N L x o, x :: l) ∧ lastN (dsT N L x o, x :: l) = o ∧ dsT N L x o ≠ Far
  | [], x, h => by
    cases h
    rw [dsT_self hG ho]
    exact ⟨.one, by simp [lastN], by unfold Far; omega⟩
  | y :: l, x, h => by
    cases h with
    | cons _ _ _ ht hs =>
      obtain ⟨h1, h2, _⟩ := Sh.tr hG ho hs
      obtain ⟨h3, h4⟩ := IsTr.cons ht.1 h1
      have e : cst L x y + dsT N L y o = dsT N L x o := ht.2.2
      rw [show cst L x y + (dsT N L y o, y :: l).1 = dsT N L x o from e] at h3 h4
      exact ⟨h3, h4.trans h2, (ht.facts hG).2.2.2⟩
theorem IsTr.sh {N : Int} {L : List Ed} {o : Int} (hG : gok N L = true) (ho : 0 ≤ o ∧ o < N) : ∀ (n : Nat) {x : Int} {t : Tr}, t.2.length = n → (0 ≤ x ∧ x < N) → IsTr L x t → lastN t = o → t.1 = dsT N L x o → Sh N L o t.2
  | 0, x, t, hn, hx, h, _, _ => by have := (h.bounds hG hx).1; omega
  | n + 1, x, t, hn, hx, h, hl, hc => by
    rcases h.uncons with rfl | ⟨y, u, h1, h2, rfl, h4⟩
    · have : x = o := by simpa [lastN] using hl
      subst this
      exact .one
    · have hnr := cst_near hG h1
      have hy := hnr.2.1
      have g1 := dsT_le hG hy h2
      rw [h4, hl] at g1
      have g0 := (dsT_bnd hG hy o).1
      have hdy : dsT N L y o ≠ Far := by
        rcases dsT_tr hG (s := y) o with e | ⟨v, b1, b2, b3⟩
        · -- a trail to o is there
          intro _
          obtain ⟨v, c1, c2, c3, c4⟩ := h2.simple hG
          obtain ⟨b1, b2, b3, b4, b5⟩ := c1.bounds hG hy
          have hll : v.2.length ≤ N.toNat := nodup_bound N.toNat v.2 c4 (fun x hx => by have := b5 x hx; omega)
          have hN := gok_parts hG
          have h5 := dsT_le hG hy c1
          rw [c2, h4, hl, e] at h5
          have : (v.2.length - 1 : Nat) ≤ 9 := by omega
          unfold Far at h5
          omega
        · obtain ⟨v, c1, c2, c3, c4⟩ := h2.simple hG
          obtain ⟨b1, b2, b3, b4, b5⟩ := c1.bounds hG hy
          have hll : v.2.length ≤ N.toNat := nodup_bound N.toNat v.2 c4 (fun x hx => by have := b5 x hx; omega)
          have hN := gok_parts hG
          have h5 := dsT_le hG hy c1
          rw [c2, h4, hl] at h5
          have : (v.2.length - 1 : Nat) ≤ 9 := by omega
          unfold Far
          omega
      have hc' : cst L x y + u.1 = dsT N L x o := hc
      -- no way from x is cheaper
      have g2 : dsT N L x o ≤ cst L x y + dsT N L y o := by
        rcases dsT_tr hG (s := y) o with e | ⟨v, b1, b2, b3⟩
        · exact absurd e hdy
        · obtain ⟨c1, c2⟩ := IsTr.cons h1 b1
          have := dsT_le hG hx c1
          rw [c2, b2] at this
          have e : (cst L x y + v.1, x :: v.2).1 = cst L x y + v.1 := rfl
          rw [e, b3] at this
          exact this
      have hu : u.1 = dsT N L y o := by omega
      have hs := IsTr.sh hG ho n (by simpa using hn) hy h2 (h4.trans hl) hu
      have ht : tgP N L o x y := ⟨h1, hdy, by omega⟩
      rcases h2.uncons with rfl | ⟨z, w, _, _, rfl, _⟩
      · exact .cons x y [] ht hs
      · exact .cons x y w.2 ht hs
theorem Sh.ex {N : Int} {L : List Ed} {o x : Int} (hG : gok N L = true) (ho : 0 ≤ o ∧ o < N) (hx : 0 ≤ x ∧ x < N) (h : dsT N L x o ≠ Far) : ∃ l, Sh N L o (x :: l) := by
  rcases dsT_tr hG (s := x) o with e | ⟨t, h1, h2, h3⟩
  · exact absurd e h
  · have hs := IsTr.sh hG ho _ rfl hx h1 h2 h3
    rcases h1.uncons with rfl | ⟨y, u, _, _, rfl, _⟩
    · exact ⟨[], hs⟩
    · exact ⟨u.2, hs⟩
theorem Sh.at_o {N : Int} {L : List Ed} {o : Int} (hG : gok N L = true) (ho : 0 ≤ o ∧ o < N) {l : List Int} (h : Sh N L o (o :: l)) : l = [] := by
  cases h with
  | one => rfl
  | cons _ y _ ht _ =>
    have := (ht.facts hG).2.2.1
    rw [dsT_self hG ho] at this
    have := (dsT_bnd hG (ht.facts hG).2.1 o).1
    omega
/-- k is the least number of nodes of a shortest way from x to o. -/
def stp (N : Int) (L : List Ed) (o x k : Int) : Prop := (∃ l, Sh N L o (x :: l) ∧ ((l.length : Int) + 1 = k)) ∧ ∀ l, Sh N L o (x :: l) → k ≤ (l.length : Int) + 1
theorem stp_o {N : Int} {L : List Ed} {o : Int} (hG : gok N L = true) (ho : 0 ≤ o ∧ o < N) : stp N L o o 1 :=
  ⟨⟨[], .one, rfl⟩, fun l h => by rw [h.at_o hG ho]; simp⟩
theorem stp_least {N : Int} {L : List Ed} {o x : Int} {S : Int → Int} (hxo : x ≠ o) (hS : ∀ y, tgP N L o x y → stp N L o y (S y)) {k : Int} (h1 : ∃ y, tgP N L o x y ∧ S y + 1 = k) (h2 : ∀ y, tgP N L o x y → k ≤ S y + 1) : stp N L o x k := by
  obtain ⟨y, hy, e⟩ := h1
  refine ⟨?_, fun l h => ?_⟩
  · obtain ⟨⟨l, g1, g2⟩, _⟩ := hS y hy
    exact ⟨y :: l, .cons x y l hy g1, by rw [List.length_cons]; omega⟩
  · cases h with
    | one => exact absurd rfl hxo
    | cons _ z l' ht hs =>
      have g1 := h2 z ht
      have g2 := (hS z ht).2 _ hs
      rw [List.length_cons]
      omega
/-- The way that the model walks. -/
def nxP (N : Int) (L : List Ed) (o : Int) (S : Int → Int) (x y : Int) : Prop := tgP N L o x y ∧ S y + 1 = S x
inductive Gw (N : Int) (L : List Ed) (o : Int) (S : Int → Int) : List Int → Prop
  | one : Gw N L o S [o]
  | cons (x y : Int) (l : List Int) : x ≠ o → nxP N L o S x y → (∀ z, z < y → ¬ nxP N L o S x z) → Gw N L o S (y :: l) → Gw N L o S (x :: y :: l)
theorem least_int (p : Int → Prop) (n : Nat) (h : ∃ y : Int, 0 ≤ y ∧ y < (n : Int) ∧ p y) (hp : ∀ y, p y → 0 ≤ y) : ∃ y, p y ∧ ∀ z, z < y → ¬ p z := by
  induction n with
  | zero => obtain ⟨y, h1, h2, _⟩ := h; omega
  | succ n ih =>
    by_cases hh : ∃ y : Int, 0 ≤ y ∧ y < (n : Int) ∧ p y
    · exact ih hh
    · obtain ⟨y, h1, h2, h3⟩ := h
      refine ⟨y, h3, fun z hz hpz => hh ⟨z, hp z hpz, by omega, hpz⟩⟩
theorem Gw.ex {N : Int} {L : List Ed} {o : Int} {S : Int → Int} (hG : gok N L = true) (ho : 0 ≤ o ∧ o < N) (hS : ∀ x, 0 ≤ x ∧ x < N → dsT N L x o ≠ Far → stp N L o x (S x)) :
    ∀ (n : Nat) (x : Int), (0 ≤ x ∧ x < N) → dsT N L x o ≠ Far → S x ≤ (n : Int) → ∃ l, Gw N L o S (x :: l) ∧ (l.length : Int) + 1 = S x
  | 0, x, hx, hd, hn => by
    obtain ⟨⟨l, _, h2⟩, _⟩ := hS x hx hd
    omega
  | n + 1, x, hx, hd, hn => by
    by_cases hxo : x = o
    · subst hxo
      refine ⟨[], .one, ?_⟩
      obtain ⟨⟨l, h1, h2⟩, _⟩ := hS x hx hd
      rw [h1.at_o hG ho] at h2
      simpa using h2
    · obtain ⟨⟨l, h1, h2⟩, h3⟩ := hS x hx hd
      cases h1 with
      | one => exact absurd rfl hxo
      | cons _ y l' ht hs =>
        have hf := ht.facts hG
        have hsy := hS y hf.2.1 ht.2.1
        have g1 := hsy.2 _ hs
        obtain ⟨⟨l2, g2, g3⟩, _⟩ := hsy
        have g4 := h3 _ (.cons x y l2 ht g2)
        rw [List.length_cons] at h2 g4
        have hnx : nxP N L o S x y := ⟨ht, by omega⟩
        obtain ⟨z, hz, hmin⟩ := least_int (nxP N L o S x) N.toNat ⟨y, hf.2.1.1, by omega, hnx⟩ (fun z hz => (hz.1.facts hG).2.1.1)
        have hfz := hz.1.facts hG
        obtain ⟨l3, k1, k2⟩ := Gw.ex hG ho hS n z hfz.2.1 hz.1.2.1 (by have := hz.2; omega)
        exact ⟨z :: l3, .cons x z l3 hxo hz hmin k1, by rw [List.length_cons]; have := hz.2; omega⟩
theorem Gw.best {N : Int} {L : List Ed} {o : Int} {S : Int → Int} (hG : gok N L = true) (ho : 0 ≤ o ∧ o < N) (hS : ∀ x, 0 ≤ x ∧ x < N → dsT N L x o ≠ Far → stp N L o x (S x)) :
    ∀ {l : List Int} {x : Int}, Gw N L o S (x :: l) → Sh N L o (x :: l) ∧ (dsT N L x o ≠ Far → (l.length : Int) + 1 = S x) ∧ ∀ u, Sh N L o (x :: u) → u.length = l.length → lexB (x :: u) (x :: l) = false
  | [], x, h => by
    cases h
    refine ⟨.one, fun hd => ?_, fun u hu _ => by rw [hu.at_o hG ho]; exact lexB_irrefl _⟩
    obtain ⟨⟨l, h1, h2⟩, _⟩ := hS o ho hd
    rw [h1.at_o hG ho] at h2
    exact h2
  | y :: l, x, h => by
    cases h with
    | cons _ _ _ hxo hnx hmin hg =>
      obtain ⟨i1, i2, i3⟩ := Gw.best hG ho hS hg
      have hf := hnx.1.facts hG
      have h2 := i2 hnx.1.2.1
      refine ⟨.cons x y l hnx.1 i1, fun _ => by rw [List.length_cons]; have := hnx.2; omega, fun u hu he => ?_⟩
      have hk : lexB u (y :: l) = false := by
        cases hu with
        | one => exact absurd rfl hxo
        | cons _ z u' ht hs =>
          rw [List.length_cons, List.length_cons] at he
          have hfz := ht.facts hG
          have hsz := hS z hfz.2.1 ht.2.1
          have g1 := hsz.2 _ hs
          obtain ⟨⟨l2, g2, g3⟩, _⟩ := hsz
          have g4 := (hS x hf.1 hf.2.2.2).2 _ (.cons x z l2 ht g2)
          rw [List.length_cons] at g4
          have hz : nxP N L o S x z := ⟨ht, by have := hnx.2; omega⟩
          have hyz : y ≤ z := by
            by_cases hc : z < y
            · exact absurd hz (hmin z hc)
            · omega
          by_cases e : z = y
          · subst e
            exact i3 u' hs (by omega)
          · simp only [lexB, Bool.or_eq_false_iff, Bool.and_eq_false_iff, decide_eq_false_iff_not]
            exact ⟨by omega, .inl e⟩
      show (decide (x < x) || (decide (x = x) && lexB u (y :: l))) = false
      rw [hk]; simp
/-- The way that the model walks is the preferred one. -/
theorem Gw.found {N : Int} {L : List Ed} {s o : Int} {S : Int → Int} {P : List Tr} (hG : gok N L = true) (hs : 0 ≤ s ∧ s < N) (ho : 0 ≤ o ∧ o < N) (hS : ∀ x, 0 ≤ x ∧ x < N → dsT N L x o ≠ Far → stp N L o x (S x)) (hF : Found L s P) {t : Tr} (ht : t ∈ P) (hl : lastN t = o) {l : List Int} (hg : Gw N L o S (s :: l)) : t.2 = s :: l := by
  have hb := hF.best t ht
  have hd := hF.dis hG hs ht
  rw [hl] at hd
  obtain ⟨b1, b2, b3⟩ := hg.best hG ho hS
  obtain ⟨c1, c2, c3⟩ := b1.tr hG ho
  have hsh := IsTr.sh hG ho _ rfl hs hb.1 hl hd.symm
  have h1 : leT t (dsT N L s o, s :: l) := hb.2 _ c1 (c2.trans hl.symm)
  have hst := hS s hs c3
  have h2 : leT (dsT N L s o, s :: l) t := by
    unfold leT ltB
    rw [hd]
    rcases hb.1.uncons with e | ⟨y, u, _, _, e, _⟩
    · have e2 : t.2 = s :: [] := by rw [e]
      rw [e2] at hsh ⊢
      have g := hst.2 _ hsh
      have g' := b2 c3
      have e3 : l.length = 0 := by simp at g; omega
      have e4 : l = [] := List.length_eq_zero_iff.1 e3
      rw [e4, lexB_irrefl]
      simp
    · have e2 : t.2 = s :: u.2 := by rw [e]
      rw [e2] at hsh ⊢
      have g := hst.2 _ hsh
      have g' := b2 c3
      simp only [List.length_cons]
      by_cases e5 : u.2.length = l.length
      · rw [b3 _ hsh e5]; simp; omega
      · have : ¬ (u.2.length + 1 < l.length + 1) := by omega
        simp; omega
  have := leT_anti h1 h2
  rw [this]

instance (N : Int) (L : List Ed) (o x y : Int) : Decidable (tgP N L o x y) := by unfold tgP; infer_instance
/-- The sum of f below n. -/
def psum (f : Int → Int) : Nat → Int
  | 0 => 0
  | n + 1 => psum f n + f (n : Int)
theorem psum_congr {f g : Int → Int} : ∀ (n : Nat), (∀ i : Nat, i < n → f (i : Int) = g (i : Int)) → psum f n = psum g n
  | 0, _ => rfl
  | n + 1, h => by unfold psum; rw [psum_congr n (fun i hi => h i (by omega)), h n (by omega)]
theorem psum_add (f g : Int → Int) : ∀ n, psum (fun x => f x + g x) n = psum f n + psum g n
  | 0 => rfl
  | n + 1 => by unfold psum; rw [psum_add f g n]; omega
theorem psum_mul (c : Int) (f : Int → Int) : ∀ n, psum (fun x => c * f x) n = c * psum f n
  | 0 => by simp [psum]
  | n + 1 => by unfold psum; rw [psum_mul c f n, Int.mul_add]
theorem psum_zero : ∀ n, psum (fun _ => 0) n = 0
  | 0 => rfl
  | n + 1 => by unfold psum; rw [psum_zero n]; rfl
theorem psum_swap (f : Int → Int → Int) (m : Nat) : ∀ n, psum (fun x => psum (fun y => f x y) m) n = psum (fun y => psum (fun x => f x y) n) m
  | 0 => by simp only [psum]; rw [psum_zero]
  | n + 1 => by
    have : (fun y => psum (fun x => f x y) (n + 1)) = fun y => psum (fun x => f x y) n + f (n : Int) y := rfl
    rw [this, psum_add, ← psum_swap f m n]; rfl
theorem psum_nonneg {f : Int → Int} : ∀ n, (∀ i : Nat, i < n → 0 ≤ f (i : Int)) → 0 ≤ psum f n
  | 0, _ => Int.le_refl _
  | n + 1, h => by
    have h1 := psum_nonneg n (fun i hi => h i (by omega))
    have h2 := h n (by omega)
    show 0 ≤ psum f n + f (n : Int)
    omega
theorem psum_pos {f : Int → Int} : ∀ n, (∀ i : Nat, i < n → 0 ≤ f (i : Int)) → (∃ i : Nat, i < n ∧ 0 < f (i : Int)) → 0 < psum f n
  | 0, _, h => by obtain ⟨i, hi, _⟩ := h; omega
  | n + 1, h, hp => by
    show 0 < psum f n + f (n : Int)
    obtain ⟨i, hi, h0⟩ := hp
    have h1 := psum_nonneg n (fun i hi => h i (by omega))
    have h2 := h n (by omega)
    by_cases e : i = n
    · subst e; omega
    · have := psum_pos n (fun i hi => h i (by omega)) ⟨i, by omega, h0⟩
      omega
theorem psum_le {f : Int → Int} {B : Int} : ∀ (n : Nat), (∀ i : Nat, i < n → f (i : Int) ≤ B) → psum f n ≤ (n : Int) * B
  | 0, _ => by simp [psum]
  | n + 1, h => by
    have h1 := psum_le n (fun i hi => h i (by omega))
    have h2 := h n (by omega)
    show psum f n + f (n : Int) ≤ ((n + 1 : Nat) : Int) * B
    rw [Int.natCast_add, Int.add_mul]
    omega
/-- f with z at a. -/
def upd (f : Int → Int) (a z : Int) : Int → Int := fun x => if x = a then z else f x
theorem upd_at (f : Int → Int) (a z : Int) : upd f a z a = z := if_pos rfl
theorem upd_ne {f : Int → Int} {a z x : Int} (h : x ≠ a) : upd f a z x = f x := if_neg h
theorem psum_upd (f : Int → Int) (z : Int) {a : Nat} : ∀ n, a < n → psum (upd f (a : Int) z) n = psum f n + z - f (a : Int)
  | 0, h => absurd h (Nat.not_lt_zero _)
  | n + 1, h => by
    show psum (upd f (a : Int) z) n + upd f (a : Int) z (n : Int) = psum f n + f (n : Int) + z - f (a : Int)
    by_cases e : a = n
    · subst e
      rw [upd_at, psum_congr a (g := f) (fun i hi => upd_ne (by omega))]
      omega
    · rw [psum_upd f z n (by omega), upd_ne (by omega)]
      omega
/-- Ways by one edge more. -/
def wsum (N : Int) (L : List Ed) (o : Int) (W : Int → Int) (x : Int) (j : Nat) : Int := psum (fun y => if tgP N L o x y then W y else 0) j
theorem wsum_succ (N : Int) (L : List Ed) (o : Int) (W : Int → Int) (x : Int) (j : Nat) : wsum N L o W x (j + 1) = wsum N L o W x j + if tgP N L o x (j : Int) then W (j : Int) else 0 := rfl
/-- What holds of a node that is done. -/
def DoneP (N : Int) (L : List Ed) (o : Int) (D : Int → Bool) (S W : Int → Int) (x : Int) : Prop :=
  dsT N L x o ≠ Far ∧ stp N L o x (S x) ∧ 0 < W x ∧ (x = o → W x = 1) ∧ (x ≠ o → W x = wsum N L o W x N.toNat) ∧ ∀ y, tgP N L o x y → D y = true
/-- What holds ahead of round k. -/
structure LSt (N : Int) (L : List Ed) (o : Int) (k : Nat) (D : Int → Bool) (S W : Int → Int) : Prop where
  done : ∀ x, 0 ≤ x ∧ x < N → D x = true → DoneP N L o D S W x
  open_ : ∀ x, 0 ≤ x ∧ x < N → D x = false → S x = 0 ∧ W x = 0
  bnd : ∀ x, 0 ≤ x ∧ x < N → 0 ≤ W x ∧ W x ≤ 10 ^ k ∧ 0 ≤ S x ∧ S x ≤ k
  cnt : psum (fun x => if D x = true then 1 else 0) N.toNat = k
theorem LSt.start (N : Int) (L : List Ed) (o : Int) : LSt N L o 0 (fun _ => false) (fun _ => 0) (fun _ => 0) where
  done _ _ h := by cases h
  open_ _ _ _ := ⟨rfl, rfl⟩
  bnd x _ := by simp
  cnt := by rw [psum_congr (g := fun _ => 0) _ (fun i _ => by simp), psum_zero]; rfl
/-- The node that is picked: of those not done the first of the nearest. -/
def PickP (N : Int) (L : List Ed) (o : Int) (D : Int → Bool) (at_ : Int) (j : Nat) : Prop :=
  (at_ < 0 ∧ at_ = -1 ∧ ∀ i : Nat, i < j → D (i : Int) = true ∨ dsT N L (i : Int) o = Far) ∨
  (0 ≤ at_ ∧ at_ < (j : Int) ∧ D at_ = false ∧ dsT N L at_ o < Far ∧ ∀ i : Nat, i < j → D (i : Int) = false → dsT N L at_ o ≤ dsT N L (i : Int) o)
theorem PickP.start (N : Int) (L : List Ed) (o : Int) (D : Int → Bool) : PickP N L o D (-1) 0 := .inl ⟨by omega, rfl, fun _ hi => absurd hi (Nat.not_lt_zero _)⟩
theorem PickP.take {N : Int} {L : List Ed} {o : Int} {D : Int → Bool} {a : Int} {j : Nat} (h : PickP N L o D a j) (h1 : D (j : Int) = false) (h2 : dsT N L (j : Int) o < Far) (h3 : a < 0 ∨ dsT N L (j : Int) o < dsT N L a o) : PickP N L o D (j : Int) (j + 1) := by
  refine .inr ⟨by omega, by omega, h1, h2, fun i hi hd => ?_⟩
  by_cases e : i = j
  · subst e; exact Int.le_refl _
  · rcases h with ⟨a0, a1, a2⟩ | ⟨a0, a1, a2, a3, a4⟩
    · rcases a2 i (by omega) with hh | hh
      · rw [hh] at hd; cases hd
      · omega
    · have := a4 i (by omega) hd
      omega
theorem PickP.skip {N : Int} {L : List Ed} {o : Int} {D : Int → Bool} {a : Int} {j : Nat} (hG : gok N L = true) (ho : (j : Int) < N) (h : PickP N L o D a j) (h1 : D (j : Int) = true ∨ ¬ dsT N L (j : Int) o < Far ∨ (0 ≤ a ∧ ¬ dsT N L (j : Int) o < dsT N L a o)) : PickP N L o D a (j + 1) := by
  have hb := (dsT_bnd (s := (j : Int)) hG ⟨by omega, ho⟩ o).2
  rcases h with ⟨a0, a1, a2⟩ | ⟨a0, a1, a2, a3, a4⟩
  · refine .inl ⟨a0, a1, fun i hi => ?_⟩
    by_cases e : i = j
    · subst e
      rcases h1 with h1 | h1 | h1
      · exact .inl h1
      · right; omega
      · omega
    · exact a2 i (by omega)
  · refine .inr ⟨a0, by omega, a2, a3, fun i hi hd => ?_⟩
    by_cases e : i = j
    · subst e
      rcases h1 with h1 | h1 | h1
      · rw [h1] at hd; cases hd
      · omega
      · omega
    · exact a4 i (by omega) hd
/-- The steps of a node while its edges are read. -/
def MinP (N : Int) (L : List Ed) (o : Int) (S : Int → Int) (x m : Int) (j : Nat) : Prop :=
  (m = 0 ∧ ∀ i : Nat, i < j → ¬ tgP N L o x (i : Int)) ∨ (1 ≤ m ∧ (∃ i : Nat, i < j ∧ tgP N L o x (i : Int) ∧ S (i : Int) + 1 = m) ∧ ∀ i : Nat, i < j → tgP N L o x (i : Int) → m ≤ S (i : Int) + 1)
theorem MinP.start (N : Int) (L : List Ed) (o : Int) (S : Int → Int) (x : Int) : MinP N L o S x 0 0 := .inl ⟨rfl, fun _ hi => absurd hi (Nat.not_lt_zero _)⟩
theorem MinP.pass {N : Int} {L : List Ed} {o : Int} {S : Int → Int} {x m : Int} {j : Nat} (h : MinP N L o S x m j) (hn : ¬ tgP N L o x (j : Int)) : MinP N L o S x m (j + 1) := by
  rcases h with ⟨h1, h2⟩ | ⟨h1, ⟨i, h2, h3, h4⟩, h5⟩
  · refine .inl ⟨h1, fun i hi => ?_⟩
    by_cases e : i = j
    · subst e; exact hn
    · exact h2 i (by omega)
  · refine .inr ⟨h1, ⟨i, by omega, h3, h4⟩, fun i hi ht => ?_⟩
    by_cases e : i = j
    · subst e; exact absurd ht hn
    · exact h5 i (by omega) ht
theorem MinP.less {N : Int} {L : List Ed} {o : Int} {S : Int → Int} {x m : Int} {j : Nat} (h : MinP N L o S x m j) (ht : tgP N L o x (j : Int)) (h0 : 0 ≤ S (j : Int)) (hm : m = 0 ∨ S (j : Int) + 1 < m) : MinP N L o S x (S (j : Int) + 1) (j + 1) := by
  refine .inr ⟨by omega, ⟨j, by omega, ht, rfl⟩, fun i hi ht' => ?_⟩
  by_cases e : i = j
  · subst e; exact Int.le_refl _
  · rcases h with ⟨h1, h2⟩ | ⟨h1, _, h5⟩
    · exact absurd ht' (h2 i (by omega))
    · have := h5 i (by omega) ht'; omega
theorem MinP.more {N : Int} {L : List Ed} {o : Int} {S : Int → Int} {x m : Int} {j : Nat} (h : MinP N L o S x m j) (ht : tgP N L o x (j : Int)) (hm : m ≠ 0) (hm2 : ¬ S (j : Int) + 1 < m) : MinP N L o S x m (j + 1) := by
  rcases h with ⟨h1, h2⟩ | ⟨h1, ⟨i, h2, h3, h4⟩, h5⟩
  · exact absurd h1 hm
  · refine .inr ⟨h1, ⟨i, by omega, h3, h4⟩, fun i hi ht => ?_⟩
    by_cases e : i = j
    · subst e; omega
    · exact h5 i (by omega) ht
/-- All edges of a node that is picked lead to nodes that are done. -/
theorem PickP.near {N : Int} {L : List Ed} {o : Int} {D : Int → Bool} {a : Int} (hG : gok N L = true) (h : PickP N L o D a N.toNat) (h0 : 0 ≤ a) {y : Int} (ht : tgP N L o a y) : D y = true := by
  rcases h with ⟨h1, _⟩ | ⟨h1, h2, h3, h4, h5⟩
  · omega
  · have hf := ht.facts hG
    by_cases hd : D y = true
    · exact hd
    · have := h5 y.toNat (by omega) (by rw [Int.toNat_of_nonneg hf.2.1.1]; simpa using hd)
      rw [Int.toNat_of_nonneg hf.2.1.1] at this
      omega
theorem tgP.exists {N : Int} {L : List Ed} {o x : Int} (hG : gok N L = true) (ho : 0 ≤ o ∧ o < N) (hx : 0 ≤ x ∧ x < N) (hxo : x ≠ o) (h : dsT N L x o ≠ Far) : ∃ y, tgP N L o x y := by
  obtain ⟨l, hl⟩ := Sh.ex hG ho hx h
  cases hl with
  | one => exact absurd rfl hxo
  | cons _ y _ ht _ => exact ⟨y, ht⟩
/-- What a node that is marked done asks of the others. -/
theorem DoneP.keep {N : Int} {L : List Ed} {o : Int} {D : Int → Bool} {S W : Int → Int} {a s w x : Int} (hxa : x ≠ a) (ha : D a = false) (h : DoneP N L o D S W x) : DoneP N L o (fun z => if z = a then true else D z) (upd S a s) (upd W a w) x := by
  obtain ⟨h1, h2, h3, h4, h5, h6⟩ := h
  refine ⟨h1, by rw [upd_ne hxa]; exact h2, by rw [upd_ne hxa]; exact h3, fun e => by rw [upd_ne hxa]; exact h4 e, fun e => ?_, fun y hy => ?_⟩
  · rw [upd_ne hxa, h5 e]
    unfold wsum
    refine psum_congr _ (fun i _ => ?_)
    show (if tgP N L o x (i : Int) then W (i : Int) else 0) = if tgP N L o x (i : Int) then upd W a w (i : Int) else 0
    by_cases ht : tgP N L o x (i : Int)
    · rw [if_pos ht, if_pos ht, upd_ne]
      intro e
      have := h6 _ ht
      rw [e, ha] at this
      cases this
    · rw [if_neg ht, if_neg ht]
  · show (if y = a then true else D y) = true
    split
    · rfl
    · exact h6 y hy
theorem LSt.mark {N : Int} {L : List Ed} {o : Int} {k : Nat} {D : Int → Bool} {S W : Int → Int} (h : LSt N L o k D S W) {a s w : Int} (ha : 0 ≤ a ∧ a < N) (hd : D a = false) (hb : 0 ≤ w ∧ w ≤ 10 ^ (k + 1) ∧ 0 ≤ s ∧ s ≤ ((k + 1 : Nat) : Int)) (hP : DoneP N L o (fun z => if z = a then true else D z) (upd S a s) (upd W a w) a) : LSt N L o (k + 1) (fun z => if z = a then true else D z) (upd S a s) (upd W a w) where
  done x hx hdx := by
    by_cases e : x = a
    · subst e; exact hP
    · have hdx' : D x = true := by simpa [e] using hdx
      exact (h.done x hx hdx').keep e hd
  open_ x hx hdx := by
    by_cases e : x = a
    · subst e; simp at hdx
    · rw [upd_ne e, upd_ne e]
      exact h.open_ x hx (by simpa [e] using hdx)
  bnd x hx := by
    have hp : (10 : Int) ^ k ≤ 10 ^ (k + 1) := by rw [Int.pow_succ]; have : (0 : Int) ≤ 10 ^ k := Int.pow_nonneg (by omega); omega
    by_cases e : x = a
    · subst e; rw [upd_at, upd_at]; exact hb
    · rw [upd_ne e, upd_ne e]
      have := h.bnd x hx
      omega
  cnt := by
    have e1 : (fun x => if (if x = a then true else D x) = true then (1 : Int) else 0) = upd (fun x => if D x = true then 1 else 0) ((a.toNat : Nat) : Int) 1 := by
      funext x
      unfold upd
      rw [Int.toNat_of_nonneg ha.1]
      by_cases e : x = a
      · simp [e]
      · simp [e]
    rw [e1, psum_upd _ _ _ (by omega), h.cnt, Int.toNat_of_nonneg ha.1, hd]
    simp
theorem LSt.target {N : Int} {L : List Ed} {o : Int} {k : Nat} {D : Int → Bool} {S W : Int → Int} (hG : gok N L = true) (h : LSt N L o k D S W) (ho : 0 ≤ o ∧ o < N) (hd : D o = false) : LSt N L o (k + 1) (fun z => if z = o then true else D z) (upd S o 1) (upd W o 1) := by
  refine h.mark ho hd ⟨by omega, ?_, by omega, by omega⟩ ⟨?_, ?_, ?_, fun _ => upd_at _ _ _, fun e => absurd rfl e, fun y hy => ?_⟩
  · have := Int.pow_pos (n := (10 : Int)) (m := k) (by omega)
    rw [Int.pow_succ]; omega
  · rw [dsT_self hG ho]; unfold Far; omega
  · rw [upd_at]; exact stp_o hG ho
  · rw [upd_at]; omega
  · have := (hy.facts hG).2.2.1
    rw [dsT_self hG ho] at this
    have := (dsT_bnd hG (hy.facts hG).2.1 o).1
    omega
theorem wsum_bnd {N : Int} {L : List Ed} {o : Int} {W : Int → Int} {B : Int} (hB : 0 ≤ B) {x : Int} (j : Nat) (h : ∀ i : Nat, i < j → 0 ≤ W (i : Int) ∧ W (i : Int) ≤ B) : 0 ≤ wsum N L o W x j ∧ wsum N L o W x j ≤ (j : Int) * B := by
  refine ⟨psum_nonneg _ fun i hi => ?_, psum_le _ fun i hi => ?_⟩
  · show 0 ≤ if tgP N L o x (i : Int) then W (i : Int) else 0
    split
    · exact (h i hi).1
    · exact Int.le_refl _
  · show (if tgP N L o x (i : Int) then W (i : Int) else 0) ≤ B
    split
    · exact (h i hi).2
    · exact hB
theorem LSt.node {N : Int} {L : List Ed} {o : Int} {k : Nat} {D : Int → Bool} {S W : Int → Int} (hG : gok N L = true) (h : LSt N L o k D S W) (ho : 0 ≤ o ∧ o < N) {a m : Int} (hp : PickP N L o D a N.toNat) (h0 : 0 ≤ a) (hao : a ≠ o) (hm : MinP N L o S a m N.toNat) : LSt N L o (k + 1) (fun z => if z = a then true else D z) (upd S a m) (upd W a (wsum N L o W a N.toNat)) := by
  have hN := gok_parts hG
  have hpa := hp
  rcases hp with ⟨p1, _⟩ | ⟨p1, p2, p3, p4, p5⟩
  · omega
  have ha : 0 ≤ a ∧ a < N := ⟨h0, by omega⟩
  have hd : dsT N L a o ≠ Far := by omega
  obtain ⟨y, hy⟩ := tgP.exists hG ho ha hao hd
  have hfy := hy.facts hG
  have hpk : (0 : Int) ≤ 10 ^ k := Int.pow_nonneg (by omega)
  have hws := wsum_bnd (N := N) (L := L) (o := o) (W := W) hpk (x := a) N.toNat (fun i hi => ⟨(h.bnd (i : Int) ⟨by omega, by omega⟩).1, (h.bnd (i : Int) ⟨by omega, by omega⟩).2.1⟩)
  have hDa : D a = false := p3
  rcases hm with ⟨_, m2⟩ | ⟨m1, ⟨i, m2, m3, m4⟩, m5⟩
  · have := m2 y.toNat (by omega)
    rw [Int.toNat_of_nonneg hfy.2.1.1] at this
    exact absurd hy this
  have hdone : ∀ z, tgP N L o a z → DoneP N L o D S W z := fun z hz => h.done z (hz.facts hG).2.1 (hpa.near hG h0 hz)
  have hne : ∀ z, tgP N L o a z → z ≠ a := fun z hz e => by
    have := (hz.facts hG).2.2.1
    rw [e] at this; omega
  refine h.mark ha hDa ⟨hws.1, ?_, by omega, ?_⟩ ⟨hd, ?_, ?_, fun e => absurd e hao, fun _ => ?_, fun z hz => ?_⟩
  · have e1 : (N.toNat : Int) * 10 ^ k ≤ 10 * 10 ^ k := Int.mul_le_mul_of_nonneg_right (by omega) hpk
    rw [Int.pow_succ]; omega
  · have := (h.bnd (i : Int) ⟨by omega, by omega⟩).2.2.2
    omega
  · rw [upd_at]
    refine stp_least hao (S := S) (fun z hz => (hdone z hz).2.1) ⟨(i : Int), m3, m4⟩ (fun z hz => ?_)
    have hz' := (hz.facts hG).2.1
    have := m5 z.toNat (by omega)
    rw [Int.toNat_of_nonneg hz'.1] at this
    exact this hz
  · rw [upd_at]
    refine psum_pos _ (fun j hj => ?_) ⟨i, m2, ?_⟩
    · show 0 ≤ if tgP N L o a (j : Int) then W (j : Int) else 0
      split
      · exact (h.bnd (j : Int) ⟨by omega, by omega⟩).1
      · exact Int.le_refl _
    · show 0 < if tgP N L o a (i : Int) then W (i : Int) else 0
      rw [if_pos m3]
      exact (hdone _ m3).2.2.1
  · rw [upd_at]
    unfold wsum
    refine psum_congr _ (fun j _ => ?_)
    show (if tgP N L o a (j : Int) then W (j : Int) else 0) = if tgP N L o a (j : Int) then upd W a _ (j : Int) else 0
    by_cases ht : tgP N L o a (j : Int)
    · rw [if_pos ht, if_pos ht, upd_ne (hne _ ht)]
    · rw [if_neg ht, if_neg ht]
  · show (if z = a then true else D z) = true
    rw [if_neg (hne z hz)]
    exact hpa.near hG h0 hz
/-- What the table comes to. -/
structure StepsP (N : Int) (L : List Ed) (o : Int) (S W : Int → Int) : Prop where
  step : ∀ x, 0 ≤ x ∧ x < N → dsT N L x o ≠ Far → stp N L o x (S x) ∧ 0 < W x ∧ (x = o → W x = 1) ∧ (x ≠ o → W x = wsum N L o W x N.toNat)
  far : ∀ x, 0 ≤ x ∧ x < N → dsT N L x o = Far → S x = 0 ∧ W x = 0
  bnd : ∀ x, 0 ≤ x ∧ x < N → 0 ≤ W x ∧ W x ≤ 10 ^ 10 ∧ 0 ≤ S x ∧ S x ≤ 10
theorem LSt.fin {N : Int} {L : List Ed} {o : Int} {k : Nat} {D : Int → Bool} {S W : Int → Int} (h : LSt N L o k D S W) (hk : k ≤ 10) (hall : ∀ x, 0 ≤ x ∧ x < N → D x = true ∨ dsT N L x o = Far) : StepsP N L o S W where
  step x hx hd := by
    rcases hall x hx with e | e
    · obtain ⟨_, g2, g3, g4, g5, _⟩ := h.done x hx e
      exact ⟨g2, g3, g4, g5⟩
    · exact absurd e hd
  far x hx hd := by
    by_cases e : D x = true
    · exact absurd hd (h.done x hx e).1
    · exact h.open_ x hx (by simpa using e)
  bnd x hx := by
    have h1 := h.bnd x hx
    have : (10 : Int) ^ k ≤ 10 ^ 10 := by
      obtain ⟨d, hd⟩ : ∃ d, 10 = k + d := ⟨10 - k, by omega⟩
      rw [hd, Int.pow_add]
      have h1 : (1 : Int) ≤ 10 ^ d := Int.pow_pos (n := (10 : Int)) (m := d) (by omega)
      have h2 : (0 : Int) ≤ 10 ^ k := Int.pow_nonneg (by omega)
      have := Int.mul_le_mul_of_nonneg_left h1 h2
      omega
    omega
theorem psum_ones {f : Int → Int} : ∀ (n : Nat), (∀ i : Nat, i < n → f (i : Int) ≤ 1) → psum f n = (n : Int) → ∀ i : Nat, i < n → f (i : Int) = 1
  | 0, _, _, i, hi => absurd hi (Nat.not_lt_zero _)
  | n + 1, h, e, i, hi => by
    have h1 := psum_le (f := f) (B := 1) n (fun i hi => h i (by omega))
    have h2 := h n (by omega)
    have e' : psum f n + f (n : Int) = ((n + 1 : Nat) : Int) := e
    by_cases ee : i = n
    · subst ee; omega
    · exact psum_ones n (fun i hi => h i (by omega)) (by omega) i (by omega)
theorem LSt.full {N : Int} {L : List Ed} {o : Int} {k : Nat} {D : Int → Bool} {S W : Int → Int} (hN : 0 ≤ N) (h : LSt N L o k D S W) (hk : N.toNat ≤ k) : ∀ x, 0 ≤ x ∧ x < N → D x = true := fun x hx => by
  have h0 : ∀ i : Nat, i < N.toNat → (fun x => if D x = true then (1 : Int) else 0) (i : Int) ≤ 1 := fun i _ => by
    show (if D (i : Int) = true then (1 : Int) else 0) ≤ 1
    split <;> omega
  have h1 := psum_le (f := fun x => if D x = true then (1 : Int) else 0) (B := 1) N.toNat h0
  have h2 := h.cnt
  have h3 : psum (fun x => if D x = true then (1 : Int) else 0) N.toNat = (N.toNat : Int) := by rw [h2] at h1 ⊢; omega
  have := psum_ones (f := fun x => if D x = true then (1 : Int) else 0) N.toNat h0 h3 x.toNat (by omega)
  rw [Int.toNat_of_nonneg hx.1] at this
  by_cases e : D x = true
  · exact e
  · simp [e] at this
theorem PickP.none {N : Int} {L : List Ed} {o : Int} {D : Int → Bool} {a : Int} (h : PickP N L o D a N.toNat) (h0 : a < 0) : ∀ x, 0 ≤ x ∧ x < N → D x = true ∨ dsT N L x o = Far := fun x hx => by
  rcases h with ⟨_, _, h2⟩ | ⟨h1, _⟩
  · have := h2 x.toNat (by omega)
    rw [Int.toNat_of_nonneg hx.1] at this
    exact this
  · omega

/-- An edge with which a shortest way from s ends. -/
def tfP (N : Int) (L : List Ed) (s x y : Int) : Prop := cst L x y ≠ Far ∧ dsT N L s x ≠ Far ∧ dsT N L s x + cst L x y = dsT N L s y
instance (N : Int) (L : List Ed) (s x y : Int) : Decidable (tfP N L s x y) := by unfold tfP; infer_instance
theorem IsTr.dsT_small {N : Int} {L : List Ed} {s : Int} (hG : gok N L = true) (hs : 0 ≤ s ∧ s < N) {t : Tr} (h : IsTr L s t) : dsT N L s (lastN t) ≤ 9000 := by
  obtain ⟨u, g1, g2, g3, g4⟩ := h.simple hG
  obtain ⟨b1, b2, b3, b4, b5⟩ := g1.bounds hG hs
  have hl : u.2.length ≤ N.toNat := nodup_bound N.toNat u.2 g4 (fun x hx => by have := b5 x hx; omega)
  have hN := gok_parts hG
  have h5 := dsT_le hG hs g1
  rw [g2] at h5
  have : (u.2.length - 1 : Nat) ≤ 9 := by omega
  omega
theorem dsT_small {N : Int} {L : List Ed} {s x : Int} (hG : gok N L = true) (hs : 0 ≤ s ∧ s < N) (h : dsT N L s x ≠ Far) : dsT N L s x ≤ 9000 := by
  rcases dsT_tr hG (s := s) x with e | ⟨t, h1, h2, _⟩
  · exact absurd e h
  · have := h1.dsT_small hG hs
    rw [h2] at this
    exact this
/-- One edge more from s. -/
theorem dsT_on {N : Int} {L : List Ed} {s x y : Int} (hG : gok N L = true) (hs : 0 ≤ s ∧ s < N) (h : dsT N L s x ≠ Far) (hc : cst L x y ≠ Far) : dsT N L s y ≤ 9000 ∧ dsT N L s y ≤ dsT N L s x + cst L x y := by
  rcases dsT_tr hG (s := s) x with e | ⟨t, h1, h2, h3⟩
  · exact absurd e h
  · have g := IsTr.ext t y h1 (by rw [h2]; exact hc)
    have g1 := g.dsT_small hG hs
    have g2 := dsT_le hG hs g
    rw [lastN_ext] at g1 g2
    refine ⟨g1, ?_⟩
    have e : (extT L t y).1 = t.1 + cst L (lastN t) y := rfl
    rw [e, h2, h3] at g2
    exact g2
/-- One edge ahead of o. -/
theorem dsT_pre {N : Int} {L : List Ed} {o x y : Int} (hG : gok N L = true) (h : dsT N L y o ≠ Far) (hc : cst L x y ≠ Far) : dsT N L x o ≤ 9000 ∧ dsT N L x o ≤ cst L x y + dsT N L y o := by
  have hn := cst_near hG hc
  rcases dsT_tr hG (s := y) o with e | ⟨t, h1, h2, h3⟩
  · exact absurd e h
  · obtain ⟨g, g0⟩ := IsTr.cons hc h1
    have g1 := g.dsT_small hG hn.1
    have g2 := dsT_le hG hn.1 g
    rw [g0, h2] at g1 g2
    refine ⟨g1, ?_⟩
    have e : (cst L x y + t.1, x :: t.2).1 = cst L x y + t.1 := rfl
    rw [e, h3] at g2
    exact g2
/-- On a shortest way from s to o. -/
def onP (N : Int) (L : List Ed) (s o x : Int) : Prop := dsT N L s x ≠ Far ∧ dsT N L x o ≠ Far ∧ dsT N L s x + dsT N L x o = dsT N L s o
instance (N : Int) (L : List Ed) (s o x : Int) : Decidable (onP N L s o x) := by unfold onP; infer_instance
def edP (N : Int) (L : List Ed) (s o x y : Int) : Prop := cst L x y ≠ Far ∧ onP N L s o x ∧ onP N L s o y ∧ dsT N L s x + cst L x y = dsT N L s y
instance (N : Int) (L : List Ed) (s o x y : Int) : Decidable (edP N L s o x y) := by unfold edP; infer_instance
theorem edP_tg {N : Int} {L : List Ed} {s o x y : Int} (hG : gok N L = true) (hs : 0 ≤ s ∧ s < N) (hx : onP N L s o x) : tgP N L o x y ↔ edP N L s o x y := by
  obtain ⟨a1, a2, a3⟩ := hx
  constructor
  · rintro ⟨h1, h2, h3⟩
    obtain ⟨g1, g2⟩ := dsT_on hG hs a1 h1
    have hy := dsT_small hG (cst_near hG h1).2.1 h2
    have g3 := dsT_tri hG hs (i := s) (k := y) (j := o) (by unfold Far; omega) (by unfold Far; omega)
    refine ⟨h1, ⟨a1, a2, a3⟩, ⟨by unfold Far; omega, h2, by omega⟩, by omega⟩
  · rintro ⟨h1, _, ⟨h2, h3, h4⟩, h5⟩
    exact ⟨h1, h3, by omega⟩
theorem edP_tf {N : Int} {L : List Ed} {s o x y : Int} (hG : gok N L = true) (hs : 0 ≤ s ∧ s < N) (hy : onP N L s o y) : tfP N L s x y ↔ edP N L s o x y := by
  obtain ⟨a1, a2, a3⟩ := hy
  constructor
  · rintro ⟨h1, h2, h3⟩
    obtain ⟨g1, g2⟩ := dsT_pre hG a2 h1
    have hx := dsT_small hG hs h2
    have g3 := dsT_tri hG hs (i := s) (k := x) (j := o) (by unfold Far; omega) (by unfold Far; omega)
    refine ⟨h1, ⟨h2, by unfold Far; omega, by omega⟩, ⟨a1, a2, a3⟩, h3⟩
  · rintro ⟨h1, ⟨h2, _, _⟩, _, h5⟩
    exact ⟨h1, h2, h5⟩
theorem if_mul (p : Prop) [Decidable p] (a b : Int) : (if p then a * b else 0) = a * if p then b else 0 := by split <;> simp
theorem if_mul' (p : Prop) [Decidable p] (a b : Int) : (if p then a * b else 0) = b * if p then a else 0 := by split <;> simp [Int.mul_comm]
/-- The flow. -/
theorem flow {N : Int} {L : List Ed} {s o : Int} {F W : Int → Int} (hG : gok N L = true) (hs : 0 ≤ s ∧ s < N) (ho : 0 ≤ o ∧ o < N) (hd : dsT N L s o ≠ Far)
    (hF0 : F s = 1) (hF : ∀ y, 0 ≤ y ∧ y < N → y ≠ s → dsT N L s y ≠ Far → F y = psum (fun x => if tfP N L s x y then F x else 0) N.toNat)
    (hW0 : W o = 1) (hW : ∀ x, 0 ≤ x ∧ x < N → x ≠ o → dsT N L x o ≠ Far → W x = wsum N L o W x N.toNat) : F o = W s := by
  have d0 := dsT_self hG hs
  have d1 := dsT_self hG ho
  have hon_s : onP N L s o s := ⟨by rw [d0]; unfold Far; omega, hd, by omega⟩
  have hon_o : onP N L s o o := ⟨hd, by rw [d1]; unfold Far; omega, by omega⟩
  obtain ⟨H, hH⟩ : ∃ H : Int → Int, H = fun x => if onP N L s o x then F x * W x else 0 := ⟨_, rfl⟩
  have e1 : psum (fun x => psum (fun y => if edP N L s o x y then F x * W y else 0) N.toNat) N.toNat = psum (upd H ((o.toNat : Nat) : Int) 0) N.toNat := by
    refine psum_congr _ fun i hi => ?_
    show psum (fun y => if edP N L s o (i : Int) y then F (i : Int) * W y else 0) N.toNat = _
    by_cases hon : onP N L s o (i : Int)
    · by_cases hio : (i : Int) = o
      · rw [hio, Int.toNat_of_nonneg ho.1, upd_at]
        refine (psum_congr _ fun j _ => ?_).trans (psum_zero N.toNat)
        rw [if_neg]
        rintro ⟨h1, _, ⟨b1, b2, b3⟩, h4⟩
        have := (cst_bound hG o (j : Int)).1
        have := (dsT_bnd hG (cst_near hG h1).2.1 o).1
        omega
      · rw [upd_ne (by rw [Int.toNat_of_nonneg ho.1]; exact hio), hH]
        show _ = if onP N L s o (i : Int) then F (i : Int) * W (i : Int) else 0
        rw [if_pos hon, hW (i : Int) ⟨by omega, by omega⟩ hio hon.2.1]
        unfold wsum
        rw [← psum_mul]
        refine psum_congr _ fun j _ => ?_
        show (if edP N L s o (i : Int) (j : Int) then F (i : Int) * W (j : Int) else 0) = F (i : Int) * if tgP N L o (i : Int) (j : Int) then W (j : Int) else 0
        rw [if_mul]
        by_cases ht : tgP N L o (i : Int) (j : Int)
        · rw [if_pos ht, if_pos ((edP_tg hG hs hon).1 ht)]
        · rw [if_neg ht, if_neg (fun h => ht ((edP_tg hG hs hon).2 h))]
    · have e : upd H ((o.toNat : Nat) : Int) 0 (i : Int) = 0 := by
        unfold upd
        split
        · rfl
        · rw [hH]; exact if_neg hon
      rw [e]
      exact (psum_congr _ fun j _ => if_neg fun h : edP N L s o (i : Int) (j : Int) => hon h.2.1).trans (psum_zero N.toNat)
  have e2 : psum (fun y => psum (fun x => if edP N L s o x y then F x * W y else 0) N.toNat) N.toNat = psum (upd H ((s.toNat : Nat) : Int) 0) N.toNat := by
    refine psum_congr _ fun i hi => ?_
    show psum (fun x => if edP N L s o x (i : Int) then F x * W (i : Int) else 0) N.toNat = _
    by_cases hon : onP N L s o (i : Int)
    · by_cases hio : (i : Int) = s
      · rw [hio, Int.toNat_of_nonneg hs.1, upd_at]
        refine (psum_congr _ fun j _ => ?_).trans (psum_zero N.toNat)
        rw [if_neg]
        rintro ⟨h1, _, ⟨b1, b2, b3⟩, h4⟩
        have := (cst_bound hG (j : Int) s).1
        have := (dsT_bnd hG hs (j : Int)).1
        omega
      · rw [upd_ne (by rw [Int.toNat_of_nonneg hs.1]; exact hio), hH]
        show _ = if onP N L s o (i : Int) then F (i : Int) * W (i : Int) else 0
        rw [if_pos hon, Int.mul_comm, hF (i : Int) ⟨by omega, by omega⟩ hio hon.1, ← psum_mul]
        refine psum_congr _ fun j _ => ?_
        show (if edP N L s o (j : Int) (i : Int) then F (j : Int) * W (i : Int) else 0) = W (i : Int) * if tfP N L s (j : Int) (i : Int) then F (j : Int) else 0
        rw [if_mul']
        by_cases ht : tfP N L s (j : Int) (i : Int)
        · rw [if_pos ht, if_pos ((edP_tf hG hs hon).1 ht)]
        · rw [if_neg ht, if_neg (fun h => ht ((edP_tf hG hs hon).2 h))]
    · have e : upd H ((s.toNat : Nat) : Int) 0 (i : Int) = 0 := by
        unfold upd
        split
        · rfl
        · rw [hH]; exact if_neg hon
      rw [e]
      exact (psum_congr _ fun j _ => if_neg fun h : edP N L s o (j : Int) (i : Int) => hon h.2.2.1).trans (psum_zero N.toNat)
  rw [psum_swap, e2, psum_upd _ _ _ (by omega), psum_upd _ _ _ (by omega), Int.toNat_of_nonneg hs.1, Int.toNat_of_nonneg ho.1] at e1
  have h1 : H s = W s := by rw [hH]; show (if onP N L s o s then F s * W s else 0) = _; rw [if_pos hon_s, hF0, Int.one_mul]
  have h2 : H o = F o := by rw [hH]; show (if onP N L s o o then F o * W o else 0) = _; rw [if_pos hon_o, hW0, Int.mul_one]
  omega

theorem stp.uniq {N : Int} {L : List Ed} {o x k k' : Int} (h : stp N L o x k) (h' : stp N L o x k') : k = k' := by
  obtain ⟨⟨l, a1, a2⟩, a3⟩ := h
  obtain ⟨⟨l', b1, b2⟩, b3⟩ := h'
  have := a3 l' b1
  have := b3 l a1
  omega
theorem stp.ex {N : Int} {L : List Ed} {o x : Int} (hG : gok N L = true) (ho : 0 ≤ o ∧ o < N) (hx : 0 ≤ x ∧ x < N) (hd : dsT N L x o ≠ Far) : ∃ k, stp N L o x k := by
  obtain ⟨l, hl⟩ := Sh.ex hG ho hx hd
  obtain ⟨k, ⟨l2, h1, h2⟩, h3⟩ := least_int (fun k => ∃ l, Sh N L o (x :: l) ∧ (l.length : Int) + 1 = k) (l.length + 2) ⟨(l.length : Int) + 1, by omega, by omega, l, hl, rfl⟩ (fun y ⟨l, _, h⟩ => by omega)
  refine ⟨k, ⟨l2, h1, h2⟩, fun l3 h4 => ?_⟩
  have := h3 ((l3.length : Int) + 1)
  by_cases e : (l3.length : Int) + 1 < k
  · exact absurd ⟨l3, h4, rfl⟩ (this e)
  · omega
theorem stpT.ex {N : Int} {L : List Ed} {o : Int} (hG : gok N L = true) (ho : 0 ≤ o ∧ o < N) : ∃ S : Int → Int, ∀ x, 0 ≤ x ∧ x < N → dsT N L x o ≠ Far → stp N L o x (S x) := by
  have h : ∀ x, ∃ k, (0 ≤ x ∧ x < N) → dsT N L x o ≠ Far → stp N L o x k := fun x => by
    by_cases hx : 0 ≤ x ∧ x < N
    · by_cases hd : dsT N L x o ≠ Far
      · obtain ⟨k, hk⟩ := stp.ex hG ho hx hd
        exact ⟨k, fun _ _ => hk⟩
      · exact ⟨0, fun _ h => absurd h hd⟩
    · exact ⟨0, fun h => absurd h hx⟩
  exact ⟨fun x => Classical.choose (h x), fun x => Classical.choose_spec (h x)⟩
theorem Gw.congr {N : Int} {L : List Ed} {o : Int} {S S' : Int → Int} (hG : gok N L = true) (h : ∀ x, 0 ≤ x ∧ x < N → dsT N L x o ≠ Far → S x = S' x) : ∀ {l : List Int}, Gw N L o S l → Gw N L o S' l
  | _, .one => .one
  | _, .cons x y l hx hn hm hg => by
    have hf := hn.1.facts hG
    have ex := h x hf.1 hf.2.2.2
    refine .cons x y l hx ⟨hn.1, ?_⟩ (fun z hz hh => hm z hz ⟨hh.1, ?_⟩) (hg.congr hG h)
    · rw [← ex, ← h y hf.2.1 hn.1.2.1]; exact hn.2
    · have hfz := hh.1.facts hG
      rw [ex, h z hfz.2.1 hh.1.2.1]; exact hh.2
theorem Gw.uniq {N : Int} {L : List Ed} {o : Int} {S : Int → Int} : ∀ {l l' : List Int} {x : Int}, Gw N L o S (x :: l) → Gw N L o S (x :: l') → l = l'
  | [], l', x, h, h' => by
    cases h
    cases h' with
    | one => rfl
    | cons _ y l hx _ _ _ => exact absurd rfl hx
  | y :: l, l', x, h, h' => by
    cases h with
    | cons _ _ _ hx hn hm hg =>
      cases h' with
      | one => exact absurd rfl hx
      | cons _ z l2 _ hn2 hm2 hg2 =>
        have e : y = z := by
          have a := fun hl => hm z hl hn2
          have b := fun hl => hm2 y hl hn
          by_cases h1 : y < z
          · exact absurd h1 (fun h => b h)
          · by_cases h2 : z < y
            · exact absurd h2 (fun h => a h)
            · omega
        subst e
        rw [hg.uniq hg2]
theorem Gw.sh {N : Int} {L : List Ed} {o : Int} {S : Int → Int} : ∀ {l : List Int}, Gw N L o S l → Sh N L o l
  | _, .one => .one
  | _, .cons x y l _ hn _ hg => .cons x y l hn.1 hg.sh
theorem Sh.nodes {N : Int} {L : List Ed} {o : Int} (hG : gok N L = true) (ho : 0 ≤ o ∧ o < N) : ∀ {l : List Int} {x : Int}, Sh N L o (x :: l) → (0 ≤ x ∧ x < N) ∧ (∀ z ∈ l, (0 ≤ z ∧ z < N) ∧ dsT N L z o < dsT N L x o) ∧ (x :: l).Nodup
  | [], x, h => by
    cases h
    exact ⟨ho, fun z hz => absurd hz List.not_mem_nil, by simp⟩
  | y :: l, x, h => by
    cases h with
    | cons _ _ _ ht hs =>
      have hf := ht.facts hG
      obtain ⟨h1, h2, h3⟩ := hs.nodes hG ho
      have h4 : ∀ z ∈ y :: l, (0 ≤ z ∧ z < N) ∧ dsT N L z o < dsT N L x o := fun z hz => by
        rcases List.mem_cons.1 hz with rfl | hz
        · exact ⟨h1, hf.2.2.1⟩
        · have := h2 z hz
          exact ⟨this.1, by have := hf.2.2.1; omega⟩
      refine ⟨hf.1, h4, List.nodup_cons.2 ⟨fun hx => ?_, h3⟩⟩
      have := (h4 x hx).2
      omega
theorem Sh.len {N : Int} {L : List Ed} {o x : Int} {l : List Int} (hG : gok N L = true) (ho : 0 ≤ o ∧ o < N) (h : Sh N L o (x :: l)) : l.length + 1 ≤ N.toNat := by
  obtain ⟨h1, h2, h3⟩ := h.nodes hG ho
  have := nodup_bound N.toNat (x :: l) h3 (fun z hz => by
    rcases List.mem_cons.1 hz with rfl | hz
    · omega
    · have := (h2 z hz).1; omega)
  simpa using this
/-- The way that both sides answer. -/
def WayP (N : Int) (L : List Ed) (s o : Int) (l : List Int) : Prop := ∃ S : Int → Int, (∀ x, 0 ≤ x ∧ x < N → dsT N L x o ≠ Far → stp N L o x (S x)) ∧ Gw N L o S (s :: l)
theorem WayP.ex {N : Int} {L : List Ed} {s o : Int} (hG : gok N L = true) (hs : 0 ≤ s ∧ s < N) (ho : 0 ≤ o ∧ o < N) (hd : dsT N L s o ≠ Far) : ∃ l, WayP N L s o l := by
  obtain ⟨S, hS⟩ := stpT.ex hG ho
  obtain ⟨l, h, _⟩ := Gw.ex hG ho hS (S s).toNat s hs hd (by omega)
  exact ⟨l, S, hS, h⟩
theorem WayP.len {N : Int} {L : List Ed} {s o : Int} {l : List Int} (hG : gok N L = true) (ho : 0 ≤ o ∧ o < N) (h : WayP N L s o l) : l.length + 1 ≤ N.toNat := by
  obtain ⟨S, _, h⟩ := h
  exact h.sh.len hG ho
/-- The way by the steps that a run reckoned. -/
theorem WayP.to {N : Int} {L : List Ed} {s o : Int} {l : List Int} {S : Int → Int} (hG : gok N L = true) (hS : ∀ x, 0 ≤ x ∧ x < N → dsT N L x o ≠ Far → stp N L o x (S x)) (h : WayP N L s o l) : Gw N L o S (s :: l) := by
  obtain ⟨S', hS', hg⟩ := h
  exact hg.congr hG fun x hx hd => (hS' x hx hd).uniq (hS x hx hd)
theorem WayP.uniq {N : Int} {L : List Ed} {s o : Int} {l l' : List Int} (hG : gok N L = true) (h : WayP N L s o l) (h' : WayP N L s o l') : l = l' := by
  obtain ⟨S, hS, hg⟩ := h
  exact hg.uniq (h'.to hG hS)
theorem WayP.found {N : Int} {L : List Ed} {s o : Int} {l : List Int} {P : List Tr} {t : Tr} (hG : gok N L = true) (hs : 0 ≤ s ∧ s < N) (ho : 0 ≤ o ∧ o < N) (h : WayP N L s o l) (hF : Found L s P) (ht : t ∈ P) (hl : lastN t = o) : t.2 = s :: l := by
  obtain ⟨S, hS, hg⟩ := h
  exact Gw.found hG hs ho hS hF ht hl hg

theorem Found.all_dis {N : Int} {L : List Ed} {s : Int} {P : List Tr} (hG : gok N L = true) (h : Found L s P) {x : Int} (hx : dsT N L s x ≠ Far) : ∃ u ∈ P, lastN u = x := by
  rcases dsT_tr hG (s := s) x with e | ⟨t, a1, a2, _⟩
  · exact absurd e hx
  · obtain ⟨u, hu, e⟩ := h.all t a1
    exact ⟨u, hu, e.trans a2⟩

/-- The last steps of the shortest ways to the end of t, out of the trails Q. -/
def rowS (L : List Ed) (t : Tr) (Q : List Tr) : List (Int × Int) := (Q.filter fun u => decide (u.1 + cst L (lastN u) (lastN t) = t.1)).map fun u => (lastN u, lastN t)
/-- All last steps of the first i trails. -/
def prsK (L : List Ed) (P : List Tr) : Nat → List (Int × Int)
  | 0 => []
  | i + 1 => prsK L P i ++ match P[i]? with
    | some t => rowS L t (P.take i)
    | none => []
def prs (L : List Ed) (P : List Tr) : List (Int × Int) := prsK L P P.length
theorem prsK_succ {L : List Ed} {P : List Tr} {i : Nat} {t : Tr} (h : P[i]? = some t) : prsK L P (i + 1) = prsK L P i ++ rowS L t (P.take i) := by
  show prsK L P i ++ (match P[i]? with | some t => rowS L t (P.take i) | none => []) = _
  rw [h]
theorem rowS_snoc (L : List Ed) (t u : Tr) (Q : List Tr) : rowS L t (Q ++ [u]) = rowS L t Q ++ if u.1 + cst L (lastN u) (lastN t) = t.1 then [(lastN u, lastN t)] else [] := by
  unfold rowS
  rw [List.filter_append, List.map_append]
  by_cases h : u.1 + cst L (lastN u) (lastN t) = t.1
  · rw [if_pos h]; simp [h]
  · rw [if_neg h]; simp [h]
/-- Ways by one last step more. -/
def stF (F : Int → Int) (p : Int × Int) : Int → Int := upd F p.2 (F p.2 + F p.1)
/-- What holds of the ways when the first i trails are read. -/
structure GS (N : Int) (L : List Ed) (s : Int) (P : List Tr) (i : Nat) (F : Int → Int) : Prop where
  s1 : F s = 1
  eq : ∀ q t, q < i → P[q]? = some t → lastN t ≠ s → F (lastN t) = psum (fun x => if tfP N L s x (lastN t) then F x else 0) N.toNat
  out : ∀ x, x ≠ s → (∀ q t, q < i → P[q]? = some t → lastN t ≠ x) → F x = 0
  bnd : ∀ x, 0 ≤ F x ∧ F x ≤ 10 ^ i
theorem pair_lt {α : Type _} {R : α → α → Prop} {P : List α} (h : P.Pairwise R) {q i : Nat} {a b : α} (hq : P[q]? = some a) (hi : P[i]? = some b) (hlt : q < i) : R a b := by
  obtain ⟨hq1, hq2⟩ := List.getElem?_eq_some_iff.1 hq
  obtain ⟨hi1, hi2⟩ := List.getElem?_eq_some_iff.1 hi
  have := List.pairwise_iff_getElem.1 h q i hq1 hi1 hlt
  rw [hq2, hi2] at this
  exact this
theorem Found.ne {L : List Ed} {s : Int} {P : List Tr} (h : Found L s P) {q i : Nat} {a b : Tr} (hq : P[q]? = some a) (hi : P[i]? = some b) (hne : q ≠ i) : lastN a ≠ lastN b := by
  rcases Nat.lt_or_gt_of_ne hne with hl | hl
  · exact pair_lt h.dist hq hi hl
  · exact (pair_lt h.dist hi hq hl).symm
theorem Found.le {L : List Ed} {s : Int} {P : List Tr} (h : Found L s P) {q i : Nat} {a b : Tr} (hq : P[q]? = some a) (hi : P[i]? = some b) (hne : q < i) : a.1 ≤ b.1 := leT_cost (pair_lt h.sort hq hi hne)
/-- What the sum over the trails Q comes to. -/
theorem row_sum {N : Int} {L : List Ed} {s : Int} {P : List Tr} {t : Tr} {F : Int → Int} (hG : gok N L = true) (hs : 0 ≤ s ∧ s < N) (h : Found L s P) (ht : t ∈ P) :
    ∀ (j : Nat) (Q : List Tr), Q.length = j → Q <+: P → (∀ u ∈ Q, lastN u ≠ lastN t) → ((rowS L t Q).foldl stF F) = upd F (lastN t) (F (lastN t) + psum (fun x => if tfP N L s x (lastN t) ∧ (∃ u ∈ Q, lastN u = x) then F x else 0) N.toNat)
  | 0, Q, hQ, _, _ => by
    obtain rfl : Q = [] := List.eq_nil_of_length_eq_zero hQ
    have e : psum (fun x => if tfP N L s x (lastN t) ∧ (∃ u ∈ ([] : List Tr), lastN u = x) then F x else 0) N.toNat = 0 := (psum_congr _ fun i _ => if_neg fun hh => by obtain ⟨_, u, hu, _⟩ := hh; exact absurd hu List.not_mem_nil).trans (psum_zero _)
    rw [e]
    funext x
    show F x = _
    unfold upd
    split
    · rename_i hx; rw [hx]; omega
    · rfl
  | j + 1, Q, hQ, hp, hd => by
    obtain ⟨R, u, rfl⟩ : ∃ R u, Q = R ++ [u] := ⟨Q.take j, Q[j]'(by omega), by
      have h1 := List.take_add_one (l := Q) (i := j)
      rw [List.take_of_length_le (by omega), List.getElem?_eq_getElem (by omega)] at h1
      exact h1⟩
    have hpR : R <+: P := (List.prefix_append R [u]).trans hp
    have ih := row_sum (F := F) hG hs h ht j R (by simpa using hQ) hpR (fun v hv => hd v (List.mem_append_left _ hv))
    have huP : u ∈ P := hp.subset (by simp)
    have hut : lastN u ≠ lastN t := hd u (by simp)
    have hdu := h.dis hG hs huP
    have hdt := h.dis hG hs ht
    have hbu := h.cost hG hs huP
    have hbt := h.cost hG hs ht
    have huR : ∀ v ∈ R, lastN v ≠ lastN u := fun v hv => by
      have := (h.dist.sublist hp.sublist)
      rw [List.pairwise_append] at this
      exact this.2.2 v hv u (by simp)
    have hru := ((h.best u huP).1.bounds hG hs).2.2.2.1
    have key : u.1 + cst L (lastN u) (lastN t) = t.1 ↔ tfP N L s (lastN u) (lastN t) := by
      unfold tfP
      rw [hdu, hdt]
      unfold Far
      constructor
      · intro e; exact ⟨by have := (cst_bound hG (lastN u) (lastN t)).1; omega, by omega, e⟩
      · exact fun e => e.2.2
    have e2 : psum (fun x => if tfP N L s x (lastN t) ∧ (∃ v ∈ R ++ [u], lastN v = x) then F x else 0) N.toNat = psum (fun x => if tfP N L s x (lastN t) ∧ (∃ v ∈ R, lastN v = x) then F x else 0) N.toNat + if tfP N L s (lastN u) (lastN t) then F (lastN u) else 0 := by
      have e3 : psum (fun x => if tfP N L s x (lastN t) ∧ (∃ v ∈ R ++ [u], lastN v = x) then F x else 0) N.toNat = psum (upd (fun x => if tfP N L s x (lastN t) ∧ (∃ v ∈ R, lastN v = x) then F x else 0) (((lastN u).toNat : Nat) : Int) (if tfP N L s (lastN u) (lastN t) then F (lastN u) else 0)) N.toNat := by
        refine psum_congr _ fun i _ => ?_
        show (if tfP N L s (i : Int) (lastN t) ∧ (∃ v ∈ R ++ [u], lastN v = (i : Int)) then F (i : Int) else 0) = _
        by_cases hi : (i : Int) = lastN u
        · rw [hi, Int.toNat_of_nonneg hru.1, upd_at]
          by_cases hf : tfP N L s (lastN u) (lastN t)
          · rw [if_pos hf, if_pos ⟨hf, u, by simp, rfl⟩]
          · rw [if_neg hf, if_neg (fun hh => hf hh.1)]
        · rw [upd_ne (by rw [Int.toNat_of_nonneg hru.1]; exact hi)]
          by_cases hf : tfP N L s (i : Int) (lastN t) ∧ ∃ v ∈ R, lastN v = (i : Int)
          · obtain ⟨f1, v, f2, f3⟩ := hf
            rw [if_pos ⟨f1, v, List.mem_append_left _ f2, f3⟩, if_pos ⟨f1, v, f2, f3⟩]
          · rw [if_neg hf, if_neg]
            rintro ⟨f1, v, f2, f3⟩
            rcases List.mem_append.1 f2 with f2 | f2
            · exact hf ⟨f1, v, f2, f3⟩
            · rw [List.mem_singleton] at f2; subst f2; exact hi f3.symm
      rw [e3, psum_upd _ _ _ (by omega), Int.toNat_of_nonneg hru.1]
      have e4 : (if tfP N L s (lastN u) (lastN t) ∧ (∃ v ∈ R, lastN v = lastN u) then F (lastN u) else 0) = 0 := if_neg fun hh => by
        obtain ⟨_, v, hv, e⟩ := hh
        exact huR v hv e
      show _ + _ - (if tfP N L s (lastN u) (lastN t) ∧ (∃ v ∈ R, lastN v = lastN u) then F (lastN u) else 0) = _
      rw [e4]; omega
    rw [rowS_snoc, List.foldl_append, ih, e2]
    by_cases hf : tfP N L s (lastN u) (lastN t)
    · rw [if_pos (key.2 hf), if_pos hf]
      show stF _ _ = _
      unfold stF
      show upd _ (lastN t) (upd _ _ _ (lastN t) + upd _ _ _ (lastN u)) = _
      rw [upd_at, upd_ne hut]
      funext x
      unfold upd
      split
      · omega
      · rfl
    · rw [if_neg (fun e => hf (key.1 e)), if_neg hf]
      show upd _ _ _ = _
      rw [Int.add_zero]
theorem upd_self (F : Int → Int) (a : Int) : upd F a (F a) = F := by
  funext x
  unfold upd
  split
  · rename_i h; rw [h]
  · rfl
theorem GS.start (N : Int) (L : List Ed) (s : Int) (P : List Tr) : GS N L s P 0 (upd (fun _ => 0) s 1) where
  s1 := upd_at _ _ _
  eq _ _ hq := absurd hq (Nat.not_lt_zero _)
  out x hx _ := upd_ne hx
  bnd x := by
    unfold upd
    split <;> simp
/-- A trail more: and what the first trails of its row come to is bounded, too. -/
theorem GS.step {N : Int} {L : List Ed} {s : Int} {P : List Tr} {i : Nat} {F : Int → Int} {t : Tr} (hG : gok N L = true) (hs : 0 ≤ s ∧ s < N) (h : Found L s P) (hi : P[i]? = some t) (g : GS N L s P i F) :
    GS N L s P (i + 1) ((rowS L t (P.take i)).foldl stF F) ∧ ∀ j x, 0 ≤ ((rowS L t ((P.take i).take j)).foldl stF F) x ∧ ((rowS L t ((P.take i).take j)).foldl stF F) x ≤ 10 ^ (i + 1) := by
  have htP : t ∈ P := List.mem_of_getElem? hi
  have hN := gok_parts hG
  have hmem : ∀ {u : Tr}, u ∈ P.take i → ∃ q, q < i ∧ P[q]? = some u := fun {u} hu => by
    obtain ⟨q, hq, e⟩ := List.mem_iff_getElem.1 hu
    have hq' : q < i := by rw [List.length_take] at hq; omega
    refine ⟨q, hq', ?_⟩
    rw [← List.getElem?_take_of_lt hq']
    rw [List.getElem?_eq_some_iff]; exact ⟨hq, e⟩
  have hne : ∀ u ∈ P.take i, lastN u ≠ lastN t := fun u hu => by
    obtain ⟨q, hq, e⟩ := hmem hu
    exact h.ne e hi (by omega)
  have hpk : (0 : Int) ≤ 10 ^ i := Int.pow_nonneg (by omega)
  have hpk1 : (1 : Int) ≤ 10 ^ i := Int.pow_pos (n := (10 : Int)) (m := i) (by omega)
  have hp1 : (10 : Int) ^ (i + 1) = 10 ^ i * 10 := Int.pow_succ _ _
  have hrow : ∀ Q : List Tr, Q <+: P.take i → ((rowS L t Q).foldl stF F) = upd F (lastN t) (F (lastN t) + psum (fun x => if tfP N L s x (lastN t) ∧ (∃ u ∈ Q, lastN u = x) then F x else 0) N.toNat) := fun Q hQ =>
    row_sum hG hs h htP Q.length Q rfl (hQ.trans (List.take_prefix _ _)) (fun u hu => hne u (hQ.subset hu))
  have hdt := h.dis hG hs htP
  have hbt := h.cost hG hs htP
  -- a node from which a shortest way goes on to the end of t is found ahead of it
  have hpre : ∀ x, tfP N L s x (lastN t) → ∃ u ∈ P.take i, lastN u = x := fun x hx => by
    obtain ⟨u, hu, e⟩ := h.all_dis hG hx.2.1
    obtain ⟨q, hq, e2⟩ := List.mem_iff_getElem.1 hu
    have hq2 : P[q]? = some u := List.getElem?_eq_some_iff.2 ⟨hq, e2⟩
    have hdu := h.dis hG hs hu
    have hc := (cst_bound hG x (lastN t)).1
    have h3 := hx.2.2
    rw [← e, hdu, hdt, e] at h3
    have hqi : q < i := by
      rcases Nat.lt_or_ge q i with hl | hl
      · exact hl
      · rcases Nat.lt_or_eq_of_le hl with hl | hl
        · have := h.le hi hq2 hl; omega
        · subst hl; rw [hi] at hq2; cases hq2; omega
    refine ⟨u, ?_, e⟩
    exact List.mem_of_getElem? (i := q) (by rw [List.getElem?_take_of_lt hqi]; exact hq2)
  have hs0 : lastN t = s → ∀ Q : List Tr, psum (fun x => if tfP N L s x (lastN t) ∧ (∃ u ∈ Q, lastN u = x) then F x else 0) N.toNat = 0 := fun e Q => (psum_congr _ fun j _ => if_neg fun hh => by
    have h1 := hh.1.2.2
    rw [e, dsT_self hG hs] at h1
    have := (cst_bound hG (j : Int) s).1
    have := (dsT_bnd hG hs (j : Int)).1
    omega).trans (psum_zero _)
  have hF0 : lastN t ≠ s → F (lastN t) = 0 := fun e => g.out _ e fun q u hq hu => h.ne hu hi (by omega)
  have hsumb : ∀ Q : List Tr, 0 ≤ psum (fun x => if tfP N L s x (lastN t) ∧ (∃ u ∈ Q, lastN u = x) then F x else 0) N.toNat ∧ psum (fun x => if tfP N L s x (lastN t) ∧ (∃ u ∈ Q, lastN u = x) then F x else 0) N.toNat ≤ 10 ^ i * 10 := fun Q => by
    refine ⟨psum_nonneg _ fun j _ => ?_, ?_⟩
    · show 0 ≤ if tfP N L s (j : Int) (lastN t) ∧ (∃ u ∈ Q, lastN u = (j : Int)) then F (j : Int) else 0
      split
      · exact (g.bnd _).1
      · exact Int.le_refl _
    · refine Int.le_trans (psum_le (B := 10 ^ i) N.toNat fun j _ => ?_) ?_
      · show (if tfP N L s (j : Int) (lastN t) ∧ (∃ u ∈ Q, lastN u = (j : Int)) then F (j : Int) else 0) ≤ 10 ^ i
        split
        · exact (g.bnd _).2
        · exact hpk
      · rw [Int.mul_comm]
        exact Int.mul_le_mul_of_nonneg_left (by omega) hpk
  have hbnd : ∀ Q : List Tr, Q <+: P.take i → ∀ x, 0 ≤ ((rowS L t Q).foldl stF F) x ∧ ((rowS L t Q).foldl stF F) x ≤ 10 ^ (i + 1) := fun Q hQ x => by
    rw [hrow Q hQ, hp1]
    have hx := g.bnd x
    have hb := hsumb Q
    unfold upd
    split
    · by_cases e : lastN t = s
      · rw [hs0 e]; have := g.bnd (lastN t); omega
      · rw [hF0 e]; omega
    · omega
  refine ⟨⟨?_, ?_, ?_, hbnd _ (List.prefix_refl _)⟩, fun j x => hbnd _ (List.take_prefix _ _) x⟩
  · rw [hrow _ (List.prefix_refl _)]
    by_cases e : lastN t = s
    · rw [hs0 e, Int.add_zero, upd_self]; exact g.s1
    · rw [upd_ne (fun h => e h.symm)]; exact g.s1
  · intro q u hq hu hus
    rw [hrow _ (List.prefix_refl _)]
    obtain ⟨z, hz⟩ : ∃ z, z = F (lastN t) + psum (fun x => if tfP N L s x (lastN t) ∧ (∃ u ∈ P.take i, lastN u = x) then F x else 0) N.toNat := ⟨_, rfl⟩
    rw [← hz]
    have hself : ¬ tfP N L s (lastN t) (lastN u) := fun hh => by
      have h1 := hh.2.2
      have huP := List.mem_of_getElem? hu
      have hdu := h.dis hG hs huP
      rw [hdt, hdu] at h1
      have := (cst_bound hG (lastN t) (lastN u)).1
      rcases Nat.lt_or_eq_of_le (Nat.le_of_lt_succ hq) with hl | hl
      · have := h.le hu hi hl; omega
      · subst hl; rw [hi] at hu; cases hu; omega
    have e5 : psum (fun x => if tfP N L s x (lastN u) then upd F (lastN t) z x else 0) N.toNat = psum (fun x => if tfP N L s x (lastN u) then F x else 0) N.toNat := psum_congr _ fun j _ => by
      show (if tfP N L s (j : Int) (lastN u) then upd F (lastN t) z (j : Int) else 0) = if tfP N L s (j : Int) (lastN u) then F (j : Int) else 0
      by_cases hf : tfP N L s (j : Int) (lastN u)
      · rw [if_pos hf, if_pos hf, upd_ne]
        intro e; rw [e] at hf; exact hself hf
      · rw [if_neg hf, if_neg hf]
    rw [e5]
    rcases Nat.lt_or_eq_of_le (Nat.le_of_lt_succ hq) with hl | hl
    · rw [upd_ne (h.ne hu hi (by omega))]
      exact g.eq q u hl hu hus
    · subst hl
      rw [hi] at hu; cases hu
      rw [upd_at, hz, hF0 hus, Int.zero_add]
      refine psum_congr _ fun j _ => ?_
      show (if tfP N L s (j : Int) (lastN t) ∧ (∃ u ∈ P.take q, lastN u = (j : Int)) then F (j : Int) else 0) = if tfP N L s (j : Int) (lastN t) then F (j : Int) else 0
      by_cases hf : tfP N L s (j : Int) (lastN t)
      · rw [if_pos ⟨hf, hpre _ hf⟩, if_pos hf]
      · rw [if_neg (fun hh => hf hh.1), if_neg hf]
  · intro x hx hout
    rw [hrow _ (List.prefix_refl _)]
    rw [upd_ne (fun e => hout i t (Nat.lt_succ_self _) hi e.symm)]
    exact g.out x hx fun q u hq hu => hout q u (by omega) hu
/-- The ways behind the first i trails. -/
theorem GS.all {N : Int} {L : List Ed} {s : Int} {P : List Tr} (hG : gok N L = true) (hs : 0 ≤ s ∧ s < N) (h : Found L s P) : ∀ i, i ≤ P.length → GS N L s P i ((prsK L P i).foldl stF (upd (fun _ => 0) s 1))
  | 0, _ => GS.start N L s P
  | i + 1, hi => by
    have ih := GS.all hG hs h i (by omega)
    have e : P[i]? = some (P[i]'(by omega)) := List.getElem?_eq_getElem _
    rw [prsK_succ e, List.foldl_append]
    exact (ih.step hG hs h e).1
/-- What the program's table comes to. -/
theorem ways_flow {N : Int} {L : List Ed} {s o : Int} {P : List Tr} {S W : Int → Int} (hG : gok N L = true) (hs : 0 ≤ s ∧ s < N) (ho : 0 ≤ o ∧ o < N) (h : Found L s P) (hw : StepsP N L o S W) : ((prs L P).foldl stF (upd (fun _ => 0) s 1)) o = W s := by
  have g := GS.all hG hs h P.length (Nat.le_refl _)
  show (prsK L P P.length).foldl stF _ o = _
  by_cases hd : dsT N L s o = Far
  · rw [(hw.far s hs hd).2]
    refine g.out o (fun e => ?_) (fun q t _ ht e => ?_)
    · rw [e, dsT_self hG hs] at hd; unfold Far at hd; omega
    · have h1 := h.dis hG hs (List.mem_of_getElem? ht)
      have h2 := h.cost hG hs (List.mem_of_getElem? ht)
      rw [e, hd] at h1
      unfold Far at h1; omega
  · have hwo := (hw.step o ho (by rw [dsT_self hG ho]; unfold Far; omega)).2.2.1 rfl
    refine flow hG hs ho hd g.s1 (fun y hy hys hyd => ?_) hwo (fun x hx hxo hxd => (hw.step x hx hxd).2.2.2 hxo)
    obtain ⟨t, ht, e⟩ := h.all_dis hG hyd
    obtain ⟨q, hq, e2⟩ := List.mem_iff_getElem.1 ht
    have := g.eq q t hq (List.getElem?_eq_some_iff.2 ⟨hq, e2⟩) (by rw [e]; exact hys)
    rw [e] at this
    exact this
/-- Ways by one last step more, as the machine adds. -/
def stW (F : Int → Int) (p : Int × Int) : Int → Int := upd F p.2 (IntKind.i64.wrap (F p.2 + F p.1))
theorem row_wrap {N : Int} {L : List Ed} {s : Int} {P : List Tr} {i : Nat} {F : Int → Int} {t : Tr} (hG : gok N L = true) (hs : 0 ≤ s ∧ s < N) (h : Found L s P) (hi : P[i]? = some t) (g : GS N L s P i F) (hi10 : i < 10) :
    ∀ j, (rowS L t ((P.take i).take j)).foldl stW F = (rowS L t ((P.take i).take j)).foldl stF F
  | 0 => by simp [rowS]
  | j + 1 => by
    have ih := row_wrap hG hs h hi g hi10 j
    by_cases hj : j < (P.take i).length
    · obtain ⟨u, hu⟩ : ∃ u, (P.take i)[j]? = some u := ⟨_, List.getElem?_eq_getElem hj⟩
      have e : (P.take i).take (j + 1) = (P.take i).take j ++ [u] := by rw [List.take_add_one, hu]; rfl
      have hb := (g.step hG hs h hi).2 (j + 1) (lastN t)
      rw [e, rowS_snoc, List.foldl_append] at hb
      rw [e, rowS_snoc, List.foldl_append, List.foldl_append, ih]
      by_cases hf : u.1 + cst L (lastN u) (lastN t) = t.1
      · rw [if_pos hf] at hb ⊢
        have e1 : ∀ G : Int → Int, [(lastN u, lastN t)].foldl stF G (lastN t) = G (lastN t) + G (lastN u) := fun G => upd_at _ _ _
        rw [e1] at hb
        have hp : (10 : Int) ^ (i + 1) ≤ 10 ^ 10 := by
          obtain ⟨d, hd⟩ : ∃ d, 10 = i + 1 + d := ⟨10 - (i + 1), by omega⟩
          rw [hd, Int.pow_add 10 (i + 1) d]
          have h1 : (1 : Int) ≤ 10 ^ d := Int.pow_pos (n := (10 : Int)) (m := d) (by omega)
          have h2 : (0 : Int) ≤ 10 ^ (i + 1) := Int.pow_nonneg (by omega)
          have := Int.mul_le_mul_of_nonneg_left h1 h2
          rw [Int.mul_one] at this
          exact this
        obtain ⟨z, hz⟩ : ∃ z : Int, z = 10 ^ (i + 1) := ⟨_, rfl⟩
        rw [← hz] at hb hp
        show stW _ _ = stF _ _
        unfold stW stF
        show upd _ (lastN t) (IntKind.i64.wrap (List.foldl stF F (rowS L t ((P.take i).take j)) (lastN t) + List.foldl stF F (rowS L t ((P.take i).take j)) (lastN u))) = upd _ (lastN t) _
        rw [IntWalk.i64_in _ (by omega)]
        rfl
      · rw [if_neg hf]; rfl
    · rw [List.take_of_length_le (by omega : (P.take i).length ≤ j + 1)]
      rw [List.take_of_length_le (by omega : (P.take i).length ≤ j)] at ih
      exact ih
theorem prs_wrap {N : Int} {L : List Ed} {s : Int} {P : List Tr} (hG : gok N L = true) (hs : 0 ≤ s ∧ s < N) (h : Found L s P) (hl : P.length ≤ 10) : ∀ i, i ≤ P.length → (prsK L P i).foldl stW (upd (fun _ => 0) s 1) = (prsK L P i).foldl stF (upd (fun _ => 0) s 1)
  | 0, _ => rfl
  | i + 1, hi => by
    have ih := prs_wrap hG hs h hl i (by omega)
    have e : P[i]? = some (P[i]'(by omega)) := List.getElem?_eq_getElem _
    have := row_wrap hG hs h e (GS.all hG hs h i (by omega)) (by omega) (P.take i).length
    rw [List.take_length] at this
    rw [prsK_succ e, List.foldl_append, List.foldl_append, ih, this]
/-- The steps lead between nodes. -/
theorem prs_nodes {N : Int} {L : List Ed} {s : Int} {P : List Tr} (hG : gok N L = true) (hs : 0 ≤ s ∧ s < N) (h : Found L s P) : ∀ i, i ≤ P.length → ∀ p ∈ prsK L P i, (0 ≤ p.1 ∧ p.1 < N) ∧ (0 ≤ p.2 ∧ p.2 < N)
  | 0, _, p, hp => absurd hp List.not_mem_nil
  | i + 1, hi, p, hp => by
    have e : P[i]? = some (P[i]'(by omega)) := List.getElem?_eq_getElem _
    rw [prsK_succ e, List.mem_append] at hp
    rcases hp with hp | hp
    · exact prs_nodes hG hs h i (by omega) p hp
    · unfold rowS at hp
      obtain ⟨u, hu, rfl⟩ := List.mem_map.1 hp
      have hu2 := (List.take_subset i P) (List.mem_filter.1 hu).1
      exact ⟨((h.best u hu2).1.bounds hG hs).2.2.2.1, ((h.best _ (List.mem_of_getElem? e)).1.bounds hG hs).2.2.2.1⟩

end Go.Proofs.Ytjenjdhoblcohaa
