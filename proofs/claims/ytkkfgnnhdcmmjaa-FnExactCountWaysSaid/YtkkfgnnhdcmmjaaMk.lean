/- Plain mathematics: as many shortest ways by their last edges as by their first ones. It imports no program. -/
import Derived.Test.YtkkfgnnhdcmmjaaMu
namespace Go.Proofs.Ytkkfgnnhdcmmjaa

/-- An edge with which a shortest way from s ends. -/
def tfP (N : Int) (L : List Ed) (s x y : Int) : Prop := cst L x y ≠ Far ∧ dsT N L s x ≠ Far ∧ dsT N L s x + cst L x y = dsT N L s y
instance (N : Int) (L : List Ed) (s x y : Int) : Decidable (tfP N L s x y) := by unfold tfP; infer_instance
theorem IsTr.dsT_small {N : Int} {L : List Ed} {s : Int} (hG : gok N L = true) (hs : 0 ≤ s ∧ s < N) {t : Tr} (h : IsTr L s t) : dsT N L s (lastN t) ≤ 9000 := by
  obtain ⟨u, g1, g2, g3, g4⟩ := h.simple hG
  obtain ⟨b1, b2, b3, b4, b5⟩ := g1.bounds hG hs
  have hl : u.2.length ≤ N.toNat := nodup_bound N.toNat u.2 g4 (fun x hx => by have := b5 x hx; omega)
  have hN := gok_parts hG
  have h5 := dsT_le hG hs g1
  rw [g2] at h5
  have : (u.2.length - 1 : Nat) ≤ 9 := by omega
  omega
theorem dsT_small {N : Int} {L : List Ed} {s x : Int} (hG : gok N L = true) (hs : 0 ≤ s ∧ s < N) (h : dsT N L s x ≠ Far) : dsT N L s x ≤ 9000 := by
  rcases dsT_tr hG (s := s) x with e | ⟨t, h1, h2, _⟩
  · exact absurd e h
  · have := h1.dsT_small hG hs
    rw [h2] at this
    exact this
/-- One edge more from s. -/
theorem dsT_on {N : Int} {L : List Ed} {s x y : Int} (hG : gok N L = true) (hs : 0 ≤ s ∧ s < N) (h : dsT N L s x ≠ Far) (hc : cst L x y ≠ Far) : dsT N L s y ≤ 9000 ∧ dsT N L s y ≤ dsT N L s x + cst L x y := by
  rcases dsT_tr hG (s := s) x with e | ⟨t, h1, h2, h3⟩
  · exact absurd e h
  · have g := IsTr.ext t y h1 (by rw [h2]; exact hc)
    have g1 := g.dsT_small hG hs
    have g2 := dsT_le hG hs g
    rw [lastN_ext] at g1 g2
    refine ⟨g1, ?_⟩
    have e : (extT L t y).1 = t.1 + cst L (lastN t) y := rfl
    rw [e, h2, h3] at g2
    exact g2
/-- One edge ahead of o. -/
theorem dsT_pre {N : Int} {L : List Ed} {o x y : Int} (hG : gok N L = true) (h : dsT N L y o ≠ Far) (hc : cst L x y ≠ Far) : dsT N L x o ≤ 9000 ∧ dsT N L x o ≤ cst L x y + dsT N L y o := by
  have hn := cst_near hG hc
  rcases dsT_tr hG (s := y) o with e | ⟨t, h1, h2, h3⟩
  · exact absurd e h
  · obtain ⟨g, g0⟩ := IsTr.cons hc h1
    have g1 := g.dsT_small hG hn.1
    have g2 := dsT_le hG hn.1 g
    rw [g0, h2] at g1 g2
    refine ⟨g1, ?_⟩
    have e : (cst L x y + t.1, x :: t.2).1 = cst L x y + t.1 := rfl
    rw [e, h3] at g2
    exact g2
/-- On a shortest way from s to o. -/
def onP (N : Int) (L : List Ed) (s o x : Int) : Prop := dsT N L s x ≠ Far ∧ dsT N L x o ≠ Far ∧ dsT N L s x + dsT N L x o = dsT N L s o
instance (N : Int) (L : List Ed) (s o x : Int) : Decidable (onP N L s o x) := by unfold onP; infer_instance
def edP (N : Int) (L : List Ed) (s o x y : Int) : Prop := cst L x y ≠ Far ∧ onP N L s o x ∧ onP N L s o y ∧ dsT N L s x + cst L x y = dsT N L s y
instance (N : Int) (L : List Ed) (s o x y : Int) : Decidable (edP N L s o x y) := by unfold edP; infer_instance
theorem edP_tg {N : Int} {L : List Ed} {s o x y : Int} (hG : gok N L = true) (hs : 0 ≤ s ∧ s < N) (hx : onP N L s o x) : tgP N L o x y ↔ edP N L s o x y := by
  obtain ⟨a1, a2, a3⟩ := hx
  constructor
  · rintro ⟨h1, h2, h3⟩
    obtain ⟨g1, g2⟩ := dsT_on hG hs a1 h1
    have hy := dsT_small hG (cst_near hG h1).2.1 h2
    have g3 := dsT_tri hG hs (i := s) (k := y) (j := o) (by unfold Far; omega) (by unfold Far; omega)
    refine ⟨h1, ⟨a1, a2, a3⟩, ⟨by unfold Far; omega, h2, by omega⟩, by omega⟩
  · rintro ⟨h1, _, ⟨h2, h3, h4⟩, h5⟩
    exact ⟨h1, h3, by omega⟩
theorem edP_tf {N : Int} {L : List Ed} {s o x y : Int} (hG : gok N L = true) (hs : 0 ≤ s ∧ s < N) (hy : onP N L s o y) : tfP N L s x y ↔ edP N L s o x y := by
  obtain ⟨a1, a2, a3⟩ := hy
  constructor
  · rintro ⟨h1, h2, h3⟩
    obtain ⟨g1, g2⟩ := dsT_pre hG a2 h1
    have hx := dsT_small hG hs h2
    have g3 := dsT_tri hG hs (i := s) (k := x) (j := o) (by unfold Far; omega) (by unfold Far; omega)
    refine ⟨h1, ⟨h2, by unfold Far; omega, by omega⟩, ⟨a1, a2, a3⟩, h3⟩
  · rintro ⟨h1, ⟨h2, _, _⟩, _, h5⟩
    exact ⟨h1, h2, h5⟩
theorem if_mul (p : Prop) [Decidable p] (a b : Int) : (if p then a * b else 0) = a * if p then b else 0 := by split <;> simp
theorem if_mul' (p : Prop) [Decidable p] (a b : Int) : (if p then a * b else 0) = b * if p then a else 0 := by split <;> simp [Int.mul_comm]
/-- The flow. -/
theorem flow {N : Int} {L : List Ed} {s o : Int} {F W : Int → Int} (hG : gok N L = true) (hs : 0 ≤ s ∧ s < N) (ho : 0 ≤ o ∧ o < N) (hd : dsT N L s o ≠ Far)
    (hF0 : F s = 1) (hF : ∀ y, 0 ≤ y ∧ y < N → y ≠ s → dsT N L s y ≠ Far → F y = psum (fun x => if tfP N L s x y then F x else 0) N.toNat)
    (hW0 : W o = 1) (hW : ∀ x, 0 ≤ x ∧ x < N → x ≠ o → dsT N L x o ≠ Far → W x = wsum N L o W x N.toNat) : F o = W s := by
  have d0 := dsT_self hG hs
  have d1 := dsT_self hG ho
  have hon_s : onP N L s o s := ⟨by rw [d0]; unfold Far; omega, hd, by omega⟩
  have hon_o : onP N L s o o := ⟨hd, by rw [d1]; unfold Far; omega, by omega⟩
  obtain ⟨H, hH⟩ : ∃ H : Int → Int, H = fun x => if onP N L s o x then F x * W x else 0 := ⟨_, rfl⟩
  have e1 : psum (fun x => psum (fun y => if edP N L s o x y then F x * W y else 0) N.toNat) N.toNat = psum (upd H ((o.toNat : Nat) : Int) 0) N.toNat := by
    refine psum_congr _ fun i hi => ?_
    show psum (fun y => if edP N L s o (i : Int) y then F (i : Int) * W y else 0) N.toNat = _
    by_cases hon : onP N L s o (i : Int)
    · by_cases hio : (i : Int) = o
      · rw [hio, Int.toNat_of_nonneg ho.1, upd_at]
        refine (psum_congr _ fun j _ => ?_).trans (psum_zero N.toNat)
        rw [if_neg]
        rintro ⟨h1, _, ⟨b1, b2, b3⟩, h4⟩
        have := (cst_bound hG o (j : Int)).1
        have := (dsT_bnd hG (cst_near hG h1).2.1 o).1
        omega
      · rw [upd_ne (by rw [Int.toNat_of_nonneg ho.1]; exact hio), hH]
        show _ = if onP N L s o (i : Int) then F (i : Int) * W (i : Int) else 0
        rw [if_pos hon, hW (i : Int) ⟨by omega, by omega⟩ hio hon.2.1]
        unfold wsum
        rw [← psum_mul]
        refine psum_congr _ fun j _ => ?_
        show (if edP N L s o (i : Int) (j : Int) then F (i : Int) * W (j : Int) else 0) = F (i : Int) * if tgP N L o (i : Int) (j : Int) then W (j : Int) else 0
        rw [if_mul]
        by_cases ht : tgP N L o (i : Int) (j : Int)
        · rw [if_pos ht, if_pos ((edP_tg hG hs hon).1 ht)]
        · rw [if_neg ht, if_neg (fun h => ht ((edP_tg hG hs hon).2 h))]
    · have e : upd H ((o.toNat : Nat) : Int) 0 (i : Int) = 0 := by
        unfold upd
        split
        · rfl
        · rw [hH]; exact if_neg hon
      rw [e]
      exact (psum_congr _ fun j _ => if_neg fun h : edP N L s o (i : Int) (j : Int) => hon h.2.1).trans (psum_zero N.toNat)
  have e2 : psum (fun y => psum (fun x => if edP N L s o x y then F x * W y else 0) N.toNat) N.toNat = psum (upd H ((s.toNat : Nat) : Int) 0) N.toNat := by
    refine psum_congr _ fun i hi => ?_
    show psum (fun x => if edP N L s o x (i : Int) then F x * W (i : Int) else 0) N.toNat = _
    by_cases hon : onP N L s o (i : Int)
    · by_cases hio : (i : Int) = s
      · rw [hio, Int.toNat_of_nonneg hs.1, upd_at]
        refine (psum_congr _ fun j _ => ?_).trans (psum_zero N.toNat)
        rw [if_neg]
        rintro ⟨h1, _, ⟨b1, b2, b3⟩, h4⟩
        have := (cst_bound hG (j : Int) s).1
        have := (dsT_bnd hG hs (j : Int)).1
        omega
      · rw [upd_ne (by rw [Int.toNat_of_nonneg hs.1]; exact hio), hH]
        show _ = if onP N L s o (i : Int) then F (i : Int) * W (i : Int) else 0
        rw [if_pos hon, Int.mul_comm, hF (i : Int) ⟨by omega, by omega⟩ hio hon.1, ← psum_mul]
        refine psum_congr _ fun j _ => ?_
        show (if edP N L s o (j : Int) (i : Int) then F (j : Int) * W (i : Int) else 0) = W (i : Int) * if tfP N L s (j : Int) (i : Int) then F (j : Int) else 0
        rw [if_mul']
        by_cases ht : tfP N L s (j : Int) (i : Int)
        · rw [if_pos ht, if_pos ((edP_tf hG hs hon).1 ht)]
        · rw [if_neg ht, if_neg (fun h => ht ((edP_tf hG hs hon).2 h))]
    · have e : upd H ((s.toNat : Nat) : Int) 0 (i : Int) = 0 := by
        unfold upd
        split
        · rfl
        · rw [hH]; exact if_neg hon
      rw [e]
      exact (psum_congr _ fun j _ => if_neg fun h : edP N L s o (j : Int) (i : Int) => hon h.2.2.1).trans (psum_zero N.toNat)
  rw [psum_swap, e2, psum_upd _ _ _ (by omega), psum_upd _ _ _ (by omega), Int.toNat_of_nonneg hs.1, Int.toNat_of_nonneg ho.1] at e1
  have h1 : H s = W s := by rw [hH]; show (if onP N L s o s then F s * W s else 0) = _; rw [if_pos hon_s, hF0, Int.one_mul]
  have h2 : H o = F o := by rw [hH]; show (if onP N L s o o then F o * W o else 0) = _; rw [if_pos hon_o, hW0, Int.mul_one]
  omega
end Go.Proofs.Ytkkfgnnhdcmmjaa
