/- Plain mathematics: the program's ways, step by step, come to the model's. It imports no program. -/
import Derived.Test.YtkkfgnnhdcmmjaaMk
import Derived.Test.YtkkfgnnhdcmmjaaMz
namespace Go.Proofs.Ytkkfgnnhdcmmjaa

theorem Found.all_dis {N : Int} {L : List Ed} {s : Int} {P : List Tr} (hG : gok N L = true) (h : Found L s P) {x : Int} (hx : dsT N L s x ≠ Far) : ∃ u ∈ P, lastN u = x := by
  rcases dsT_tr hG (s := s) x with e | ⟨t, a1, a2, _⟩
  · exact absurd e hx
  · obtain ⟨u, hu, e⟩ := h.all t a1
    exact ⟨u, hu, e.trans a2⟩

/-- The last steps of the shortest ways to the end of t, out of the trails Q. -/
def rowS (L : List Ed) (t : Tr) (Q : List Tr) : List (Int × Int) := (Q.filter fun u => decide (u.1 + cst L (lastN u) (lastN t) = t.1)).map fun u => (lastN u, lastN t)
/-- All last steps of the first i trails. -/
def prsK (L : List Ed) (P : List Tr) : Nat → List (Int × Int)
  | 0 => []
  | i + 1 => prsK L P i ++ match P[i]? with
    | some t => rowS L t (P.take i)
    | none => []
def prs (L : List Ed) (P : List Tr) : List (Int × Int) := prsK L P P.length
theorem prsK_succ {L : List Ed} {P : List Tr} {i : Nat} {t : Tr} (h : P[i]? = some t) : prsK L P (i + 1) = prsK L P i ++ rowS L t (P.take i) := by
  show prsK L P i ++ (match P[i]? with | some t => rowS L t (P.take i) | none => []) = _
  rw [h]
theorem rowS_snoc (L : List Ed) (t u : Tr) (Q : List Tr) : rowS L t (Q ++ [u]) = rowS L t Q ++ if u.1 + cst L (lastN u) (lastN t) = t.1 then [(lastN u, lastN t)] else [] := by
  unfold rowS
  rw [List.filter_append, List.map_append]
  by_cases h : u.1 + cst L (lastN u) (lastN t) = t.1
  · rw [if_pos h]; simp [h]
  · rw [if_neg h]; simp [h]
/-- Ways by one last step more. -/
def stF (F : Int → Int) (p : Int × Int) : Int → Int := upd F p.2 (F p.2 + F p.1)
/-- What holds of the ways when the first i trails are read. -/
structure GS (N : Int) (L : List Ed) (s : Int) (P : List Tr) (i : Nat) (F : Int → Int) : Prop where
  s1 : F s = 1
  eq : ∀ q t, q < i → P[q]? = some t → lastN t ≠ s → F (lastN t) = psum (fun x => if tfP N L s x (lastN t) then F x else 0) N.toNat
  out : ∀ x, x ≠ s → (∀ q t, q < i → P[q]? = some t → lastN t ≠ x) → F x = 0
  bnd : ∀ x, 0 ≤ F x ∧ F x ≤ 10 ^ i
theorem pair_lt {α : Type _} {R : α → α → Prop} {P : List α} (h : P.Pairwise R) {q i : Nat} {a b : α} (hq : P[q]? = some a) (hi : P[i]? = some b) (hlt : q < i) : R a b := by
  obtain ⟨hq1, hq2⟩ := List.getElem?_eq_some_iff.1 hq
  obtain ⟨hi1, hi2⟩ := List.getElem?_eq_some_iff.1 hi
  have := List.pairwise_iff_getElem.1 h q i hq1 hi1 hlt
  rw [hq2, hi2] at this
  exact this
theorem Found.ne {L : List Ed} {s : Int} {P : List Tr} (h : Found L s P) {q i : Nat} {a b : Tr} (hq : P[q]? = some a) (hi : P[i]? = some b) (hne : q ≠ i) : lastN a ≠ lastN b := by
  rcases Nat.lt_or_gt_of_ne hne with hl | hl
  · exact pair_lt h.dist hq hi hl
  · exact (pair_lt h.dist hi hq hl).symm
theorem Found.le {L : List Ed} {s : Int} {P : List Tr} (h : Found L s P) {q i : Nat} {a b : Tr} (hq : P[q]? = some a) (hi : P[i]? = some b) (hne : q < i) : a.1 ≤ b.1 := leT_cost (pair_lt h.sort hq hi hne)
/-- What the sum over the trails Q comes to. -/
theorem row_sum {N : Int} {L : List Ed} {s : Int} {P : List Tr} {t : Tr} {F : Int → Int} (hG : gok N L = true) (hs : 0 ≤ s ∧ s < N) (h : Found L s P) (ht : t ∈ P) :
    ∀ (j : Nat) (Q : List Tr), Q.length = j → Q <+: P → (∀ u ∈ Q, lastN u ≠ lastN t) → ((rowS L t Q).foldl stF F) = upd F (lastN t) (F (lastN t) + psum (fun x => if tfP N L s x (lastN t) ∧ (∃ u ∈ Q, lastN u = x) then F x else 0) N.toNat)
  | 0, Q, hQ, _, _ => by
    obtain rfl : Q = [] := List.eq_nil_of_length_eq_zero hQ
    have e : psum (fun x => if tfP N L s x (lastN t) ∧ (∃ u ∈ ([] : List Tr), lastN u = x) then F x else 0) N.toNat = 0 := (psum_congr _ fun i _ => if_neg fun hh => by obtain ⟨_, u, hu, _⟩ := hh; exact absurd hu List.not_mem_nil).trans (psum_zero _)
    rw [e]
    funext x
    show F x = _
    unfold upd
    split
    · rename_i hx; rw [hx]; omega
    · rfl
  | j + 1, Q, hQ, hp, hd => by
    obtain ⟨R, u, rfl⟩ : ∃ R u, Q = R ++ [u] := ⟨Q.take j, Q[j]'(by omega), by
      have h1 := List.take_add_one (l := Q) (i := j)
      rw [List.take_of_length_le (by omega), List.getElem?_eq_getElem (by omega)] at h1
      exact h1⟩
    have hpR : R <+: P := (List.prefix_append R [u]).trans hp
    have ih := row_sum (F := F) hG hs h ht j R (by simpa using hQ) hpR (fun v hv => hd v (List.mem_append_left _ hv))
    have huP : u ∈ P := hp.subset (by simp)
    have hut : lastN u ≠ lastN t := hd u (by simp)
    have hdu := h.dis hG hs huP
    have hdt := h.dis hG hs ht
    have hbu := h.cost hG hs huP
    have hbt := h.cost hG hs ht
    have huR : ∀ v ∈ R, lastN v ≠ lastN u := fun v hv => by
      have := (h.dist.sublist hp.sublist)
      rw [List.pairwise_append] at this
      exact this.2.2 v hv u (by simp)
    have hru := ((h.best u huP).1.bounds hG hs).2.2.2.1
    have key : u.1 + cst L (lastN u) (lastN t) = t.1 ↔ tfP N L s (lastN u) (lastN t) := by
      unfold tfP
      rw [hdu, hdt]
      unfold Far
      constructor
      · intro e; exact ⟨by have := (cst_bound hG (lastN u) (lastN t)).1; omega, by omega, e⟩
      · exact fun e => e.2.2
    have e2 : psum (fun x => if tfP N L s x (lastN t) ∧ (∃ v ∈ R ++ [u], lastN v = x) then F x else 0) N.toNat = psum (fun x => if tfP N L s x (lastN t) ∧ (∃ v ∈ R, lastN v = x) then F x else 0) N.toNat + if tfP N L s (lastN u) (lastN t) then F (lastN u) else 0 := by
      have e3 : psum (fun x => if tfP N L s x (lastN t) ∧ (∃ v ∈ R ++ [u], lastN v = x) then F x else 0) N.toNat = psum (upd (fun x => if tfP N L s x (lastN t) ∧ (∃ v ∈ R, lastN v = x) then F x else 0) (((lastN u).toNat : Nat) : Int) (if tfP N L s (lastN u) (lastN t) then F (lastN u) else 0)) N.toNat := by
        refine psum_congr _ fun i _ => ?_
        show (if tfP N L s (i : Int) (lastN t) ∧ (∃ v ∈ R ++ [u], lastN v = (i : Int)) then F (i : Int) else 0) = _
        by_cases hi : (i : Int) = lastN u
        · rw [hi, Int.toNat_of_nonneg hru.1, upd_at]
          by_cases hf : tfP N L s (lastN u) (lastN t)
          · rw [if_pos hf, if_pos ⟨hf, u, by simp, rfl⟩]
          · rw [if_neg hf, if_neg (fun hh => hf hh.1)]
        · rw [upd_ne (by rw [Int.toNat_of_nonneg hru.1]; exact hi)]
          by_cases hf : tfP N L s (i : Int) (lastN t) ∧ ∃ v ∈ R, lastN v = (i : Int)
          · obtain ⟨f1, v, f2, f3⟩ := hf
            rw [if_pos ⟨f1, v, List.mem_append_left _ f2, f3⟩, if_pos ⟨f1, v, f2, f3⟩]
          · rw [if_neg hf, if_neg]
            rintro ⟨f1, v, f2, f3⟩
            rcases List.mem_append.1 f2 with f2 | f2
            · exact hf ⟨f1, v, f2, f3⟩
            · rw [List.mem_singleton] at f2; subst f2; exact hi f3.symm
      rw [e3, psum_upd _ _ _ (by omega), Int.toNat_of_nonneg hru.1]
      have e4 : (if tfP N L s (lastN u) (lastN t) ∧ (∃ v ∈ R, lastN v = lastN u) then F (lastN u) else 0) = 0 := if_neg fun hh => by
        obtain ⟨_, v, hv, e⟩ := hh
        exact huR v hv e
      show _ + _ - (if tfP N L s (lastN u) (lastN t) ∧ (∃ v ∈ R, lastN v = lastN u) then F (lastN u) else 0) = _
      rw [e4]; omega
    rw [rowS_snoc, List.foldl_append, ih, e2]
    by_cases hf : tfP N L s (lastN u) (lastN t)
    · rw [if_pos (key.2 hf), if_pos hf]
      show stF _ _ = _
      unfold stF
      show upd _ (lastN t) (upd _ _ _ (lastN t) + upd _ _ _ (lastN u)) = _
      rw [upd_at, upd_ne hut]
      funext x
      unfold upd
      split
      · omega
      · rfl
    · rw [if_neg (fun e => hf (key.1 e)), if_neg hf]
      show upd _ _ _ = _
      rw [Int.add_zero]
theorem upd_self (F : Int → Int) (a : Int) : upd F a (F a) = F := by
  funext x
  unfold upd
  split
  · rename_i h; rw [h]
  · rfl
theorem GS.start (N : Int) (L : List Ed) (s : Int) (P : List Tr) : GS N L s P 0 (upd (fun _ => 0) s 1) where
  s1 := upd_at _ _ _
  eq _ _ hq := absurd hq (Nat.not_lt_zero _)
  out x hx _ := upd_ne hx
  bnd x := by
    unfold upd
    split <;> simp
/-- A trail more: and what the first trails of its row come to is bounded, too. -/
theorem GS.step {N : Int} {L : List Ed} {s : Int} {P : List Tr} {i : Nat} {F : Int → Int} {t : Tr} (hG : gok N L = true) (hs : 0 ≤ s ∧ s < N) (h : Found L s P) (hi : P[i]? = some t) (g : GS N L s P i F) :
    GS N L s P (i + 1) ((rowS L t (P.take i)).foldl stF F) ∧ ∀ j x, 0 ≤ ((rowS L t ((P.take i).take j)).foldl stF F) x ∧ ((rowS L t ((P.take i).take j)).foldl stF F) x ≤ 10 ^ (i + 1) := by
  have htP : t ∈ P := List.mem_of_getElem? hi
  have hN := gok_parts hG
  have hmem : ∀ {u : Tr}, u ∈ P.take i → ∃ q, q < i ∧ P[q]? = some u := fun {u} hu => by
    obtain ⟨q, hq, e⟩ := List.mem_iff_getElem.1 hu
    have hq' : q < i := by rw [List.length_take] at hq; omega
    refine ⟨q, hq', ?_⟩
    rw [← List.getElem?_take_of_lt hq']
    rw [List.getElem?_eq_some_iff]; exact ⟨hq, e⟩
  have hne : ∀ u ∈ P.take i, lastN u ≠ lastN t := fun u hu => by
    obtain ⟨q, hq, e⟩ := hmem hu
    exact h.ne e hi (by omega)
  have hpk : (0 : Int) ≤ 10 ^ i := Int.pow_nonneg (by omega)
  have hpk1 : (1 : Int) ≤ 10 ^ i := Int.pow_pos (n := (10 : Int)) (m := i) (by omega)
  have hp1 : (10 : Int) ^ (i + 1) = 10 ^ i * 10 := Int.pow_succ _ _
  have hrow : ∀ Q : List Tr, Q <+: P.take i → ((rowS L t Q).foldl stF F) = upd F (lastN t) (F (lastN t) + psum (fun x => if tfP N L s x (lastN t) ∧ (∃ u ∈ Q, lastN u = x) then F x else 0) N.toNat) := fun Q hQ =>
    row_sum hG hs h htP Q.length Q rfl (hQ.trans (List.take_prefix _ _)) (fun u hu => hne u (hQ.subset hu))
  have hdt := h.dis hG hs htP
  have hbt := h.cost hG hs htP
  -- a node from which a shortest way goes on to the end of t is found ahead of it
  have hpre : ∀ x, tfP N L s x (lastN t) → ∃ u ∈ P.take i, lastN u = x := fun x hx => by
    obtain ⟨u, hu, e⟩ := h.all_dis hG hx.2.1
    obtain ⟨q, hq, e2⟩ := List.mem_iff_getElem.1 hu
    have hq2 : P[q]? = some u := List.getElem?_eq_some_iff.2 ⟨hq, e2⟩
    have hdu := h.dis hG hs hu
    have hc := (cst_bound hG x (lastN t)).1
    have h3 := hx.2.2
    rw [← e, hdu, hdt, e] at h3
    have hqi : q < i := by
      rcases Nat.lt_or_ge q i with hl | hl
      · exact hl
      · rcases Nat.lt_or_eq_of_le hl with hl | hl
        · have := h.le hi hq2 hl; omega
        · subst hl; rw [hi] at hq2; cases hq2; omega
    refine ⟨u, ?_, e⟩
    exact List.mem_of_getElem? (i := q) (by rw [List.getElem?_take_of_lt hqi]; exact hq2)
  have hs0 : lastN t = s → ∀ Q : List Tr, psum (fun x => if tfP N L s x (lastN t) ∧ (∃ u ∈ Q, lastN u = x) then F x else 0) N.toNat = 0 := fun e Q => (psum_congr _ fun j _ => if_neg fun hh => by
    have h1 := hh.1.2.2
    rw [e, dsT_self hG hs] at h1
    have := (cst_bound hG (j : Int) s).1
    have := (dsT_bnd hG hs (j : Int)).1
    omega).trans (psum_zero _)
  have hF0 : lastN t ≠ s → F (lastN t) = 0 := fun e => g.out _ e fun q u hq hu => h.ne hu hi (by omega)
  have hsumb : ∀ Q : List Tr, 0 ≤ psum (fun x => if tfP N L s x (lastN t) ∧ (∃ u ∈ Q, lastN u = x) then F x else 0) N.toNat ∧ psum (fun x => if tfP N L s x (lastN t) ∧ (∃ u ∈ Q, lastN u = x) then F x else 0) N.toNat ≤ 10 ^ i * 10 := fun Q => by
    refine ⟨psum_nonneg _ fun j _ => ?_, ?_⟩
    · show 0 ≤ if tfP N L s (j : Int) (lastN t) ∧ (∃ u ∈ Q, lastN u = (j : Int)) then F (j : Int) else 0
      split
      · exact (g.bnd _).1
      · exact Int.le_refl _
    · refine Int.le_trans (psum_le (B := 10 ^ i) N.toNat fun j _ => ?_) ?_
      · show (if tfP N L s (j : Int) (lastN t) ∧ (∃ u ∈ Q, lastN u = (j : Int)) then F (j : Int) else 0) ≤ 10 ^ i
        split
        · exact (g.bnd _).2
        · exact hpk
      · rw [Int.mul_comm]
        exact Int.mul_le_mul_of_nonneg_left (by omega) hpk
  have hbnd : ∀ Q : List Tr, Q <+: P.take i → ∀ x, 0 ≤ ((rowS L t Q).foldl stF F) x ∧ ((rowS L t Q).foldl stF F) x ≤ 10 ^ (i + 1) := fun Q hQ x => by
    rw [hrow Q hQ, hp1]
    have hx := g.bnd x
    have hb := hsumb Q
    unfold upd
    split
    · by_cases e : lastN t = s
      · rw [hs0 e]; have := g.bnd (lastN t); omega
      · rw [hF0 e]; omega
    · omega
  refine ⟨⟨?_, ?_, ?_, hbnd _ (List.prefix_refl _)⟩, fun j x => hbnd _ (List.take_prefix _ _) x⟩
  · rw [hrow _ (List.prefix_refl _)]
    by_cases e : lastN t = s
    · rw [hs0 e, Int.add_zero, upd_self]; exact g.s1
    · rw [upd_ne (fun h => e h.symm)]; exact g.s1
  · intro q u hq hu hus
    rw [hrow _ (List.prefix_refl _)]
    obtain ⟨z, hz⟩ : ∃ z, z = F (lastN t) + psum (fun x => if tfP N L s x (lastN t) ∧ (∃ u ∈ P.take i, lastN u = x) then F x else 0) N.toNat := ⟨_, rfl⟩
    rw [← hz]
    have hself : ¬ tfP N L s (lastN t) (lastN u) := fun hh => by
      have h1 := hh.2.2
      have huP := List.mem_of_getElem? hu
      have hdu := h.dis hG hs huP
      rw [hdt, hdu] at h1
      have := (cst_bound hG (lastN t) (lastN u)).1
      rcases Nat.lt_or_eq_of_le (Nat.le_of_lt_succ hq) with hl | hl
      · have := h.le hu hi hl; omega
      · subst hl; rw [hi] at hu; cases hu; omega
    have e5 : psum (fun x => if tfP N L s x (lastN u) then upd F (lastN t) z x else 0) N.toNat = psum (fun x => if tfP N L s x (lastN u) then F x else 0) N.toNat := psum_congr _ fun j _ => by
      show (if tfP N L s (j : Int) (lastN u) then upd F (lastN t) z (j : Int) else 0) = if tfP N L s (j : Int) (lastN u) then F (j : Int) else 0
      by_cases hf : tfP N L s (j : Int) (lastN u)
      · rw [if_pos hf, if_pos hf, upd_ne]
        intro e; rw [e] at hf; exact hself hf
      · rw [if_neg hf, if_neg hf]
    rw [e5]
    rcases Nat.lt_or_eq_of_le (Nat.le_of_lt_succ hq) with hl | hl
    · rw [upd_ne (h.ne hu hi (by omega))]
      exact g.eq q u hl hu hus
    · subst hl
      rw [hi] at hu; cases hu
      rw [upd_at, hz, hF0 hus, Int.zero_add]
      refine psum_congr _ fun j _ => ?_
      show (if tfP N L s (j : Int) (lastN t) ∧ (∃ u ∈ P.take q, lastN u = (j : Int)) then F (j : Int) else 0) = if tfP N L s (j : Int) (lastN t) then F (j : Int) else 0
      by_cases hf : tfP N L s (j : Int) (lastN t)
      · rw [if_pos ⟨hf, hpre _ hf⟩, if_pos hf]
      · rw [if_neg (fun hh => hf hh.1), if_neg hf]
  · intro x hx hout
    rw [hrow _ (List.prefix_refl _)]
    rw [upd_ne (fun e => hout i t (Nat.lt_succ_self _) hi e.symm)]
    exact g.out x hx fun q u hq hu => hout q u (by omega) hu
/-- The ways behind the first i trails. -/
theorem GS.all {N : Int} {L : List Ed} {s : Int} {P : List Tr} (hG : gok N L = true) (hs : 0 ≤ s ∧ s < N) (h : Found L s P) : ∀ i, i ≤ P.length → GS N L s P i ((prsK L P i).foldl stF (upd (fun _ => 0) s 1))
  | 0, _ => GS.start N L s P
  | i + 1, hi => by
    have ih := GS.all hG hs h i (by omega)
    have e : P[i]? = some (P[i]'(by omega)) := List.getElem?_eq_getElem _
    rw [prsK_succ e, List.foldl_append]
    exact (ih.step hG hs h e).1
/-- What the program's table comes to. -/
theorem ways_flow {N : Int} {L : List Ed} {s o : Int} {P : List Tr} {S W : Int → Int} (hG : gok N L = true) (hs : 0 ≤ s ∧ s < N) (ho : 0 ≤ o ∧ o < N) (h : Found L s P) (hw : StepsP N L o S W) : ((prs L P).foldl stF (upd (fun _ => 0) s 1)) o = W s := by
  have g := GS.all hG hs h P.length (Nat.le_refl _)
  show (prsK L P P.length).foldl stF _ o = _
  by_cases hd : dsT N L s o = Far
  · rw [(hw.far s hs hd).2]
    refine g.out o (fun e => ?_) (fun q t _ ht e => ?_)
    · rw [e, dsT_self hG hs] at hd; unfold Far at hd; omega
    · have h1 := h.dis hG hs (List.mem_of_getElem? ht)
      have h2 := h.cost hG hs (List.mem_of_getElem? ht)
      rw [e, hd] at h1
      unfold Far at h1; omega
  · have hwo := (hw.step o ho (by rw [dsT_self hG ho]; unfold Far; omega)).2.2.1 rfl
    refine flow hG hs ho hd g.s1 (fun y hy hys hyd => ?_) hwo (fun x hx hxo hxd => (hw.step x hx hxd).2.2.2 hxo)
    obtain ⟨t, ht, e⟩ := h.all_dis hG hyd
    obtain ⟨q, hq, e2⟩ := List.mem_iff_getElem.1 ht
    have := g.eq q t hq (List.getElem?_eq_some_iff.2 ⟨hq, e2⟩) (by rw [e]; exact hys)
    rw [e] at this
    exact this
/-- Ways by one last step more, as the machine adds. -/
def stW (F : Int → Int) (p : Int × Int) : Int → Int := upd F p.2 (IntKind.i64.wrap (F p.2 + F p.1))
theorem row_wrap {N : Int} {L : List Ed} {s : Int} {P : List Tr} {i : Nat} {F : Int → Int} {t : Tr} (hG : gok N L = true) (hs : 0 ≤ s ∧ s < N) (h : Found L s P) (hi : P[i]? = some t) (g : GS N L s P i F) (hi10 : i < 10) :
    ∀ j, (rowS L t ((P.take i).take j)).foldl stW F = (rowS L t ((P.take i).take j)).foldl stF F
  | 0 => by simp [rowS]
  | j + 1 => by
    have ih := row_wrap hG hs h hi g hi10 j
    by_cases hj : j < (P.take i).length
    · obtain ⟨u, hu⟩ : ∃ u, (P.take i)[j]? = some u := ⟨_, List.getElem?_eq_getElem hj⟩
      have e : (P.take i).take (j + 1) = (P.take i).take j ++ [u] := by rw [List.take_add_one, hu]; rfl
      have hb := (g.step hG hs h hi).2 (j + 1) (lastN t)
      rw [e, rowS_snoc, List.foldl_append] at hb
      rw [e, rowS_snoc, List.foldl_append, List.foldl_append, ih]
      by_cases hf : u.1 + cst L (lastN u) (lastN t) = t.1
      · rw [if_pos hf] at hb ⊢
        have e1 : ∀ G : Int → Int, [(lastN u, lastN t)].foldl stF G (lastN t) = G (lastN t) + G (lastN u) := fun G => upd_at _ _ _
        rw [e1] at hb
        have hp : (10 : Int) ^ (i + 1) ≤ 10 ^ 10 := by
          obtain ⟨d, hd⟩ : ∃ d, 10 = i + 1 + d := ⟨10 - (i + 1), by omega⟩
          rw [hd, Int.pow_add 10 (i + 1) d]
          have h1 : (1 : Int) ≤ 10 ^ d := Int.pow_pos (n := (10 : Int)) (m := d) (by omega)
          have h2 : (0 : Int) ≤ 10 ^ (i + 1) := Int.pow_nonneg (by omega)
          have := Int.mul_le_mul_of_nonneg_left h1 h2
          rw [Int.mul_one] at this
          exact this
        obtain ⟨z, hz⟩ : ∃ z : Int, z = 10 ^ (i + 1) := ⟨_, rfl⟩
        rw [← hz] at hb hp
        show stW _ _ = stF _ _
        unfold stW stF
        show upd _ (lastN t) (IntKind.i64.wrap (List.foldl stF F (rowS L t ((P.take i).take j)) (lastN t) + List.foldl stF F (rowS L t ((P.take i).take j)) (lastN u))) = upd _ (lastN t) _
        rw [IntWalk.i64_in _ (by omega)]
        rfl
      · rw [if_neg hf]; rfl
    · rw [List.take_of_length_le (by omega : (P.take i).length ≤ j + 1)]
      rw [List.take_of_length_le (by omega : (P.take i).length ≤ j)] at ih
      exact ih
theorem prs_wrap {N : Int} {L : List Ed} {s : Int} {P : List Tr} (hG : gok N L = true) (hs : 0 ≤ s ∧ s < N) (h : Found L s P) (hl : P.length ≤ 10) : ∀ i, i ≤ P.length → (prsK L P i).foldl stW (upd (fun _ => 0) s 1) = (prsK L P i).foldl stF (upd (fun _ => 0) s 1)
  | 0, _ => rfl
  | i + 1, hi => by
    have ih := prs_wrap hG hs h hl i (by omega)
    have e : P[i]? = some (P[i]'(by omega)) := List.getElem?_eq_getElem _
    have := row_wrap hG hs h e (GS.all hG hs h i (by omega)) (by omega) (P.take i).length
    rw [List.take_length] at this
    rw [prsK_succ e, List.foldl_append, List.foldl_append, ih, this]
/-- The steps lead between nodes. -/
theorem prs_nodes {N : Int} {L : List Ed} {s : Int} {P : List Tr} (hG : gok N L = true) (hs : 0 ≤ s ∧ s < N) (h : Found L s P) : ∀ i, i ≤ P.length → ∀ p ∈ prsK L P i, (0 ≤ p.1 ∧ p.1 < N) ∧ (0 ≤ p.2 ∧ p.2 < N)
  | 0, _, p, hp => absurd hp List.not_mem_nil
  | i + 1, hi, p, hp => by
    have e : P[i]? = some (P[i]'(by omega)) := List.getElem?_eq_getElem _
    rw [prsK_succ e, List.mem_append] at hp
    rcases hp with hp | hp
    · exact prs_nodes hG hs h i (by omega) p hp
    · unfold rowS at hp
      obtain ⟨u, hu, rfl⟩ := List.mem_map.1 hp
      have hu2 := (List.take_subset i P) (List.mem_filter.1 hu).1
      exact ⟨((h.best u hu2).1.bounds hG hs).2.2.2.1, ((h.best _ (List.mem_of_getElem? e)).1.bounds hG hs).2.2.2.1⟩
end Go.Proofs.Ytkkfgnnhdcmmjaa
