/- Plain mathematics: the last ways to a node by tight edges: how many nodes the shortest has, which is the first of them by the alphabet, and how many ways there are. It imports no program. -/
import Derived.Test.YtkkfgnnhdcmmjaaMx
namespace Go.Proofs.Ytkkfgnnhdcmmjaa

/-- An edge with which a shortest way to o begins. -/
def tgP (N : Int) (L : List Ed) (o x y : Int) : Prop := cst L x y ≠ Far ∧ dsT N L y o ≠ Far ∧ cst L x y + dsT N L y o = dsT N L x o
theorem IsTr.cons {L : List Ed} {x y : Int} {t : Tr} (hc : cst L x y ≠ Far) (h : IsTr L y t) : IsTr L x (cst L x y + t.1, x :: t.2) ∧ lastN (cst L x y + t.1, x :: t.2) = lastN t := by
  induction h with
  | one =>
    have h1 := IsTr.ext (L := L) (0, [x]) y .one (by simpa [lastN] using hc)
    have e : extT L (0, [x]) y = (cst L x y + 0, [x, y]) := by unfold extT; simp [lastN]
    rw [e] at h1
    exact ⟨h1, by simp [lastN]⟩
  | ext u z hu hz ih =>
    obtain ⟨i1, i2⟩ := ih
    have h1 := IsTr.ext _ z i1 (by rw [i2]; exact hz)
    have e : extT L (cst L x y + u.1, x :: u.2) z = (cst L x y + (extT L u z).1, x :: (extT L u z).2) := by
      unfold extT; rw [i2]; simp only [List.cons_append]; rw [Int.add_assoc]
    rw [e] at h1
    refine ⟨h1, ?_⟩
    rw [← e, lastN_ext, lastN_ext]
theorem IsTr.uncons {L : List Ed} {x : Int} {t : Tr} (h : IsTr L x t) : t = (0, [x]) ∨ ∃ y u, cst L x y ≠ Far ∧ IsTr L y u ∧ t = (cst L x y + u.1, x :: u.2) ∧ lastN u = lastN t := by
  induction h with
  | one => exact .inl rfl
  | ext u z hu hz ih =>
    right
    rcases ih with rfl | ⟨y, v, h1, h2, rfl, h4⟩
    · have e1 : lastN ((0, [x]) : Tr) = x := by simp [lastN]
      rw [e1] at hz
      refine ⟨z, (0, [z]), hz, .one, ?_, ?_⟩
      · unfold extT; rw [e1]; simp
      · rw [lastN_ext]; simp [lastN]
    · rw [← h4] at hz
      refine ⟨y, extT L v z, h1, .ext v z h2 hz, ?_, ?_⟩
      · unfold extT; rw [h4]; simp only [List.cons_append]; rw [Int.add_assoc]
      · rw [lastN_ext, lastN_ext]
/-- The nodes of a shortest way to o. -/
inductive Sh (N : Int) (L : List Ed) (o : Int) : List Int → Prop
  | one : Sh N L o [o]
  | cons (x y : Int) (l : List Int) : tgP N L o x y → Sh N L o (y :: l) → Sh N L o (x :: y :: l)
theorem dsT_bnd {N : Int} {L : List Ed} {s : Int} (hG : gok N L = true) (hs : 0 ≤ s ∧ s < N) (x : Int) : 0 ≤ dsT N L s x ∧ dsT N L s x ≤ Far := by
  rcases dsT_tr hG (s := s) x with e | ⟨t, h1, h2, h3⟩
  · rw [e]; unfold Far; omega
  · have := (h1.bounds hG hs).2.1
    refine ⟨by omega, ?_⟩
    have h4 := dsT_le hG hs h1
    obtain ⟨u, g1, g2, g3, g4⟩ := h1.simple hG
    obtain ⟨b1, b2, b3, b4, b5⟩ := g1.bounds hG hs
    have hl : u.2.length ≤ N.toNat := nodup_bound N.toNat u.2 g4 (fun x hx => by have := b5 x hx; omega)
    have hN := gok_parts hG
    have h5 := dsT_le hG hs g1
    rw [g2, h2] at h5
    have : (u.2.length - 1 : Nat) ≤ 9 := by omega
    unfold Far
    omega
theorem tgP.facts {N : Int} {L : List Ed} {o x y : Int} (hG : gok N L = true) (h : tgP N L o x y) : (0 ≤ x ∧ x < N) ∧ (0 ≤ y ∧ y < N) ∧ dsT N L y o < dsT N L x o ∧ dsT N L x o ≠ Far := by
  obtain ⟨h1, h2, h3⟩ := h
  have hn := cst_near hG h1
  have hb := cst_bound hG x y
  refine ⟨hn.1, hn.2.1, by omega, ?_⟩
  rcases dsT_tr hG (s := y) o with e | ⟨t, a1, a2, a3⟩
  · exact absurd e h2
  · obtain ⟨u, g1, g2, g3, g4⟩ := a1.simple hG
    obtain ⟨b1, b2, b3, b4, b5⟩ := g1.bounds hG hn.2.1
    have hl : u.2.length ≤ N.toNat := nodup_bound N.toNat u.2 g4 (fun x hx => by have := b5 x hx; omega)
    have hN := gok_parts hG
    have h5 := dsT_le hG hn.2.1 g1
    rw [g2, a2] at h5
    have : (u.2.length - 1 : Nat) ≤ 9 := by omega
    have := hn.2.2.2
    unfold Far
    omega
theorem Sh.tr {N : Int} {L : List Ed} {o : Int} (hG : gok N L = true) (ho : 0 ≤ o ∧ o < N) : ∀ {l : List Int} {x : Int}, Sh N L o (x :: l) → IsTr L x (dsT N L x o, x :: l) ∧ lastN (dsT N L x o, x :: l) = o ∧ dsT N L x o ≠ Far
  | [], x, h => by
    cases h
    rw [dsT_self hG ho]
    exact ⟨.one, by simp [lastN], by unfold Far; omega⟩
  | y :: l, x, h => by
    cases h with
    | cons _ _ _ ht hs =>
      obtain ⟨h1, h2, _⟩ := Sh.tr hG ho hs
      obtain ⟨h3, h4⟩ := IsTr.cons ht.1 h1
      have e : cst L x y + dsT N L y o = dsT N L x o := ht.2.2
      rw [show cst L x y + (dsT N L y o, y :: l).1 = dsT N L x o from e] at h3 h4
      exact ⟨h3, h4.trans h2, (ht.facts hG).2.2.2⟩
theorem IsTr.sh {N : Int} {L : List Ed} {o : Int} (hG : gok N L = true) (ho : 0 ≤ o ∧ o < N) : ∀ (n : Nat) {x : Int} {t : Tr}, t.2.length = n → (0 ≤ x ∧ x < N) → IsTr L x t → lastN t = o → t.1 = dsT N L x o → Sh N L o t.2
  | 0, x, t, hn, hx, h, _, _ => by have := (h.bounds hG hx).1; omega
  | n + 1, x, t, hn, hx, h, hl, hc => by
    rcases h.uncons with rfl | ⟨y, u, h1, h2, rfl, h4⟩
    · have : x = o := by simpa [lastN] using hl
      subst this
      exact .one
    · have hnr := cst_near hG h1
      have hy := hnr.2.1
      have g1 := dsT_le hG hy h2
      rw [h4, hl] at g1
      have g0 := (dsT_bnd hG hy o).1
      have hdy : dsT N L y o ≠ Far := by
        rcases dsT_tr hG (s := y) o with e | ⟨v, b1, b2, b3⟩
        · -- a trail to o is there
          intro _
          obtain ⟨v, c1, c2, c3, c4⟩ := h2.simple hG
          obtain ⟨b1, b2, b3, b4, b5⟩ := c1.bounds hG hy
          have hll : v.2.length ≤ N.toNat := nodup_bound N.toNat v.2 c4 (fun x hx => by have := b5 x hx; omega)
          have hN := gok_parts hG
          have h5 := dsT_le hG hy c1
          rw [c2, h4, hl, e] at h5
          have : (v.2.length - 1 : Nat) ≤ 9 := by omega
          unfold Far at h5
          omega
        · obtain ⟨v, c1, c2, c3, c4⟩ := h2.simple hG
          obtain ⟨b1, b2, b3, b4, b5⟩ := c1.bounds hG hy
          have hll : v.2.length ≤ N.toNat := nodup_bound N.toNat v.2 c4 (fun x hx => by have := b5 x hx; omega)
          have hN := gok_parts hG
          have h5 := dsT_le hG hy c1
          rw [c2, h4, hl] at h5
          have : (v.2.length - 1 : Nat) ≤ 9 := by omega
          unfold Far
          omega
      have hc' : cst L x y + u.1 = dsT N L x o := hc
      -- no way from x is cheaper
      have g2 : dsT N L x o ≤ cst L x y + dsT N L y o := by
        rcases dsT_tr hG (s := y) o with e | ⟨v, b1, b2, b3⟩
        · exact absurd e hdy
        · obtain ⟨c1, c2⟩ := IsTr.cons h1 b1
          have := dsT_le hG hx c1
          rw [c2, b2] at this
          have e : (cst L x y + v.1, x :: v.2).1 = cst L x y + v.1 := rfl
          rw [e, b3] at this
          exact this
      have hu : u.1 = dsT N L y o := by omega
      have hs := IsTr.sh hG ho n (by simpa using hn) hy h2 (h4.trans hl) hu
      have ht : tgP N L o x y := ⟨h1, hdy, by omega⟩
      rcases h2.uncons with rfl | ⟨z, w, _, _, rfl, _⟩
      · exact .cons x y [] ht hs
      · exact .cons x y w.2 ht hs
theorem Sh.ex {N : Int} {L : List Ed} {o x : Int} (hG : gok N L = true) (ho : 0 ≤ o ∧ o < N) (hx : 0 ≤ x ∧ x < N) (h : dsT N L x o ≠ Far) : ∃ l, Sh N L o (x :: l) := by
  rcases dsT_tr hG (s := x) o with e | ⟨t, h1, h2, h3⟩
  · exact absurd e h
  · have hs := IsTr.sh hG ho _ rfl hx h1 h2 h3
    rcases h1.uncons with rfl | ⟨y, u, _, _, rfl, _⟩
    · exact ⟨[], hs⟩
    · exact ⟨u.2, hs⟩
theorem Sh.at_o {N : Int} {L : List Ed} {o : Int} (hG : gok N L = true) (ho : 0 ≤ o ∧ o < N) {l : List Int} (h : Sh N L o (o :: l)) : l = [] := by
  cases h with
  | one => rfl
  | cons _ y _ ht _ =>
    have := (ht.facts hG).2.2.1
    rw [dsT_self hG ho] at this
    have := (dsT_bnd hG (ht.facts hG).2.1 o).1
    omega
/-- k is the least number of nodes of a shortest way from x to o. -/
def stp (N : Int) (L : List Ed) (o x k : Int) : Prop := (∃ l, Sh N L o (x :: l) ∧ ((l.length : Int) + 1 = k)) ∧ ∀ l, Sh N L o (x :: l) → k ≤ (l.length : Int) + 1
theorem stp_o {N : Int} {L : List Ed} {o : Int} (hG : gok N L = true) (ho : 0 ≤ o ∧ o < N) : stp N L o o 1 :=
  ⟨⟨[], .one, rfl⟩, fun l h => by rw [h.at_o hG ho]; simp⟩
theorem stp_least {N : Int} {L : List Ed} {o x : Int} {S : Int → Int} (hxo : x ≠ o) (hS : ∀ y, tgP N L o x y → stp N L o y (S y)) {k : Int} (h1 : ∃ y, tgP N L o x y ∧ S y + 1 = k) (h2 : ∀ y, tgP N L o x y → k ≤ S y + 1) : stp N L o x k := by
  obtain ⟨y, hy, e⟩ := h1
  refine ⟨?_, fun l h => ?_⟩
  · obtain ⟨⟨l, g1, g2⟩, _⟩ := hS y hy
    exact ⟨y :: l, .cons x y l hy g1, by rw [List.length_cons]; omega⟩
  · cases h with
    | one => exact absurd rfl hxo
    | cons _ z l' ht hs =>
      have g1 := h2 z ht
      have g2 := (hS z ht).2 _ hs
      rw [List.length_cons]
      omega
/-- The way that the model walks. -/
def nxP (N : Int) (L : List Ed) (o : Int) (S : Int → Int) (x y : Int) : Prop := tgP N L o x y ∧ S y + 1 = S x
inductive Gw (N : Int) (L : List Ed) (o : Int) (S : Int → Int) : List Int → Prop
  | one : Gw N L o S [o]
  | cons (x y : Int) (l : List Int) : x ≠ o → nxP N L o S x y → (∀ z, z < y → ¬ nxP N L o S x z) → Gw N L o S (y :: l) → Gw N L o S (x :: y :: l)
theorem least_int (p : Int → Prop) (n : Nat) (h : ∃ y : Int, 0 ≤ y ∧ y < (n : Int) ∧ p y) (hp : ∀ y, p y → 0 ≤ y) : ∃ y, p y ∧ ∀ z, z < y → ¬ p z := by
  induction n with
  | zero => obtain ⟨y, h1, h2, _⟩ := h; omega
  | succ n ih =>
    by_cases hh : ∃ y : Int, 0 ≤ y ∧ y < (n : Int) ∧ p y
    · exact ih hh
    · obtain ⟨y, h1, h2, h3⟩ := h
      refine ⟨y, h3, fun z hz hpz => hh ⟨z, hp z hpz, by omega, hpz⟩⟩
theorem Gw.ex {N : Int} {L : List Ed} {o : Int} {S : Int → Int} (hG : gok N L = true) (ho : 0 ≤ o ∧ o < N) (hS : ∀ x, 0 ≤ x ∧ x < N → dsT N L x o ≠ Far → stp N L o x (S x)) :
    ∀ (n : Nat) (x : Int), (0 ≤ x ∧ x < N) → dsT N L x o ≠ Far → S x ≤ (n : Int) → ∃ l, Gw N L o S (x :: l) ∧ (l.length : Int) + 1 = S x
  | 0, x, hx, hd, hn => by
    obtain ⟨⟨l, _, h2⟩, _⟩ := hS x hx hd
    omega
  | n + 1, x, hx, hd, hn => by
    by_cases hxo : x = o
    · subst hxo
      refine ⟨[], .one, ?_⟩
      obtain ⟨⟨l, h1, h2⟩, _⟩ := hS x hx hd
      rw [h1.at_o hG ho] at h2
      simpa using h2
    · obtain ⟨⟨l, h1, h2⟩, h3⟩ := hS x hx hd
      cases h1 with
      | one => exact absurd rfl hxo
      | cons _ y l' ht hs =>
        have hf := ht.facts hG
        have hsy := hS y hf.2.1 ht.2.1
        have g1 := hsy.2 _ hs
        obtain ⟨⟨l2, g2, g3⟩, _⟩ := hsy
        have g4 := h3 _ (.cons x y l2 ht g2)
        rw [List.length_cons] at h2 g4
        have hnx : nxP N L o S x y := ⟨ht, by omega⟩
        obtain ⟨z, hz, hmin⟩ := least_int (nxP N L o S x) N.toNat ⟨y, hf.2.1.1, by omega, hnx⟩ (fun z hz => (hz.1.facts hG).2.1.1)
        have hfz := hz.1.facts hG
        obtain ⟨l3, k1, k2⟩ := Gw.ex hG ho hS n z hfz.2.1 hz.1.2.1 (by have := hz.2; omega)
        exact ⟨z :: l3, .cons x z l3 hxo hz hmin k1, by rw [List.length_cons]; have := hz.2; omega⟩
theorem Gw.best {N : Int} {L : List Ed} {o : Int} {S : Int → Int} (hG : gok N L = true) (ho : 0 ≤ o ∧ o < N) (hS : ∀ x, 0 ≤ x ∧ x < N → dsT N L x o ≠ Far → stp N L o x (S x)) :
    ∀ {l : List Int} {x : Int}, Gw N L o S (x :: l) → Sh N L o (x :: l) ∧ (dsT N L x o ≠ Far → (l.length : Int) + 1 = S x) ∧ ∀ u, Sh N L o (x :: u) → u.length = l.length → lexB (x :: u) (x :: l) = false
  | [], x, h => by
    cases h
    refine ⟨.one, fun hd => ?_, fun u hu _ => by rw [hu.at_o hG ho]; exact lexB_irrefl _⟩
    obtain ⟨⟨l, h1, h2⟩, _⟩ := hS o ho hd
    rw [h1.at_o hG ho] at h2
    exact h2
  | y :: l, x, h => by
    cases h with
    | cons _ _ _ hxo hnx hmin hg =>
      obtain ⟨i1, i2, i3⟩ := Gw.best hG ho hS hg
      have hf := hnx.1.facts hG
      have h2 := i2 hnx.1.2.1
      refine ⟨.cons x y l hnx.1 i1, fun _ => by rw [List.length_cons]; have := hnx.2; omega, fun u hu he => ?_⟩
      have hk : lexB u (y :: l) = false := by
        cases hu with
        | one => exact absurd rfl hxo
        | cons _ z u' ht hs =>
          rw [List.length_cons, List.length_cons] at he
          have hfz := ht.facts hG
          have hsz := hS z hfz.2.1 ht.2.1
          have g1 := hsz.2 _ hs
          obtain ⟨⟨l2, g2, g3⟩, _⟩ := hsz
          have g4 := (hS x hf.1 hf.2.2.2).2 _ (.cons x z l2 ht g2)
          rw [List.length_cons] at g4
          have hz : nxP N L o S x z := ⟨ht, by have := hnx.2; omega⟩
          have hyz : y ≤ z := by
            by_cases hc : z < y
            · exact absurd hz (hmin z hc)
            · omega
          by_cases e : z = y
          · subst e
            exact i3 u' hs (by omega)
          · simp only [lexB, Bool.or_eq_false_iff, Bool.and_eq_false_iff, decide_eq_false_iff_not]
            exact ⟨by omega, .inl e⟩
      show (decide (x < x) || (decide (x = x) && lexB u (y :: l))) = false
      rw [hk]; simp
/-- The way that the model walks is the preferred one. -/
theorem Gw.found {N : Int} {L : List Ed} {s o : Int} {S : Int → Int} {P : List Tr} (hG : gok N L = true) (hs : 0 ≤ s ∧ s < N) (ho : 0 ≤ o ∧ o < N) (hS : ∀ x, 0 ≤ x ∧ x < N → dsT N L x o ≠ Far → stp N L o x (S x)) (hF : Found L s P) {t : Tr} (ht : t ∈ P) (hl : lastN t = o) {l : List Int} (hg : Gw N L o S (s :: l)) : t.2 = s :: l := by
  have hb := hF.best t ht
  have hd := hF.dis hG hs ht
  rw [hl] at hd
  obtain ⟨b1, b2, b3⟩ := hg.best hG ho hS
  obtain ⟨c1, c2, c3⟩ := b1.tr hG ho
  have hsh := IsTr.sh hG ho _ rfl hs hb.1 hl hd.symm
  have h1 : leT t (dsT N L s o, s :: l) := hb.2 _ c1 (c2.trans hl.symm)
  have hst := hS s hs c3
  have h2 : leT (dsT N L s o, s :: l) t := by
    unfold leT ltB
    rw [hd]
    rcases hb.1.uncons with e | ⟨y, u, _, _, e, _⟩
    · have e2 : t.2 = s :: [] := by rw [e]
      rw [e2] at hsh ⊢
      have g := hst.2 _ hsh
      have g' := b2 c3
      have e3 : l.length = 0 := by simp at g; omega
      have e4 : l = [] := List.length_eq_zero_iff.1 e3
      rw [e4, lexB_irrefl]
      simp
    · have e2 : t.2 = s :: u.2 := by rw [e]
      rw [e2] at hsh ⊢
      have g := hst.2 _ hsh
      have g' := b2 c3
      simp only [List.length_cons]
      by_cases e5 : u.2.length = l.length
      · rw [b3 _ hsh e5]; simp; omega
      · have : ¬ (u.2.length + 1 < l.length + 1) := by omega
        simp; omega
  have := leT_anti h1 h2
  rw [this]
end Go.Proofs.Ytkkfgnnhdcmmjaa
