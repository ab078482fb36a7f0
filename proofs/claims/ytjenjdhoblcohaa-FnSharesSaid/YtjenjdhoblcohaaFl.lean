/- Units that are parted: what sets out comes in. -/
import Derived.Test.YtjenjdhoblcohaaSn
namespace Go.Proofs.Ytjenjdhoblcohaa
open Go.RowKit

theorem sm_add (f g : Int → Int) : ∀ l : List Int, sm (fun z => f z + g z) l = sm f l + sm g l
  | [] => rfl
  | z :: zs => by show f z + g z + sm _ zs = f z + sm f zs + (g z + sm g zs); rw [sm_add f g zs]; omega
theorem sm_nn {f : Int → Int} : ∀ {l : List Int}, (∀ z ∈ l, 0 ≤ f z) → 0 ≤ sm f l
  | [], _ => Int.le_refl _
  | z :: zs, h => by
    have h1 := h z List.mem_cons_self
    have h2 := sm_nn (f := f) (l := zs) (fun y hy => h y (List.mem_cons_of_mem _ hy))
    show 0 ≤ f z + sm f zs
    omega
theorem sm_ge {f : Int → Int} : ∀ {l : List Int}, (∀ z ∈ l, 0 ≤ f z) → ∀ y ∈ l, f y ≤ sm f l
  | [], _, y, hy => by cases hy
  | z :: zs, h, y, hy => by
    have h1 := h z List.mem_cons_self
    have h2 := sm_nn (f := f) (l := zs) (fun y hy => h y (List.mem_cons_of_mem _ hy))
    show f y ≤ f z + sm f zs
    rcases List.mem_cons.1 hy with rfl | hy
    · omega
    · have := sm_ge (f := f) (l := zs) (fun y hy => h y (List.mem_cons_of_mem _ hy)) y hy
      omega
/-- What k portions come to, from the i-th on. -/
def ps (a : Int) (m : Nat) : Nat → Nat → Int
  | _, 0 => 0
  | i, k + 1 => prt a m i + ps a m (i + 1) k
theorem sm_gn (a : Int) (m : Nat) {l : List Int} (hl : l.Pairwise (fun a b => a ≠ b)) : ∀ (i : Nat) (zs : List Int), (∀ z ∈ zs, z ∈ l) → sm (fun y => gn a m i zs y) l = ps a m i zs.length
  | _, [], _ => sm_zero l
  | i, z :: zs, h => by
    show sm (fun y => (if y = z then prt a m i else 0) + gn a m (i + 1) zs y) l = prt a m i + ps a m (i + 1) zs.length
    rw [sm_one (prt a m i) z (gn a m (i + 1) zs) hl (h z List.mem_cons_self), sm_gn a m hl (i + 1) zs (fun y hy => h y (List.mem_cons_of_mem _ hy))]
theorem ps_all (a : Int) {m : Nat} (hm : 0 < m) : ∀ (k i : Nat), i + k = m → ps a m i k = (k : Int) * (a / (m : Int)) + if (i : Int) < a % (m : Int) then a % (m : Int) - (i : Int) else 0
  | 0, i, h => by
    have := Int.emod_lt_of_pos a (show (0 : Int) < (m : Int) by omega)
    rw [if_neg (by omega)]
    simp [ps]
  | k + 1, i, h => by
    have h1 := Int.emod_lt_of_pos a (show (0 : Int) < (m : Int) by omega)
    show prt a m i + ps a m (i + 1) k = _
    rw [ps_all a hm k (i + 1) (by omega)]
    unfold prt
    have e : ((k + 1 : Nat) : Int) * (a / (m : Int)) = (k : Int) * (a / (m : Int)) + a / (m : Int) := by rw [Int.natCast_add, Int.add_mul]; simp
    rw [e]
    generalize a / (m : Int) = q
    generalize (k : Int) * q = kq
    generalize a % (m : Int) = r at *
    split <;> split <;> omega
theorem ps_whole {a : Int} {m : Nat} (hm : 0 < m) : ps a m 0 m = a := by
  rw [ps_all a hm m 0 (by omega)]
  have h1 := Int.emod_nonneg a (show (m : Int) ≠ 0 by omega)
  have h2 := Int.mul_ediv_add_emod a (m : Int)
  split <;> omega
theorem sm_con {H : Int → List Int} {l : List Int} (hl : l.Pairwise (fun a b => a ≠ b)) {x : Int} (a : Int) (hs : ∀ z ∈ H x, z ∈ l) (hn : H x ≠ []) : sm (fun y => con H a x y) l = a := by
  unfold con
  rw [sm_gn a _ hl 0 (H x) hs, ps_whole (List.length_pos_iff.2 hn)]
/-- What lies at the nodes that haven't parted it. -/
def rest (H : Int → List Int) (V : Int → Int) (xs l : List Int) : Int := sm (fun y => if y ∈ xs ∧ H y ≠ [] then 0 else run H V xs y) l
theorem Top.stays {H : Int → List Int} {V : Int → Int} {xs : List Int} {x : Int} (h : Top H V (xs ++ [x])) {p : Int} (hp : p ∈ xs ∨ p = x) : con H (run H V xs x) x p = 0 := by
  by_cases hm : p ∈ H x
  · rw [h xs x [] rfl p hp hm, con_zero]
  · exact con_not _ hm
theorem rest_all {H : Int → List Int} {V : Int → Int} {l : List Int} (hl : l.Pairwise (fun a b => a ≠ b)) (hs : ∀ x, ∀ z ∈ H x, z ∈ l) (xs : List Int) : Top H V xs → xs.Pairwise (fun a b => a ≠ b) → (∀ x ∈ xs, x ∈ l) → rest H V xs l = sm V l := by
  induction xs using snocOn with
  | nil =>
    intro _ _ _
    refine sm_congr (fun y _ => ?_)
    rw [if_neg (fun h => by cases h.1)]
    rfl
  | snoc xs x ih =>
    intro ht hp hx
    rw [List.pairwise_append] at hp
    have hxn : x ∉ xs := fun h => hp.2.2 x h x (by simp) rfl
    rw [← ih ht.init hp.1 (fun y hy => hx y (by simp [hy]))]
    unfold rest
    obtain ⟨r, hr⟩ : ∃ r, run H V xs x = r := ⟨_, rfl⟩
    have hst := fun p hp => ht.stays (p := p) hp
    have hrn : ∀ y, run H V (xs ++ [x]) y = run H V xs y + con H r x y := fun y => by rw [run_snoc, ← hr]; rfl
    rw [hr] at hst
    by_cases hc : r = 0 ∨ H x = []
    · have h0 : ∀ y, con H r x y = 0 := fun y => by
        rcases hc with e | e
        · rw [e, con_zero]
        · exact con_not _ (by rw [e]; exact List.not_mem_nil)
      refine sm_congr (fun z _ => ?_)
      rw [hrn z, h0 z]
      by_cases hz : z = x
      · subst hz
        rcases hc with e | e
        · rw [hr, e]; split <;> split <;> rfl
        · rw [if_neg (fun h => h.2 e), if_neg (fun h => h.2 e)]; omega
      · have e : (z ∈ xs ++ [x]) ↔ z ∈ xs := by simp [hz]
        simp only [e]
        split <;> omega
    · have hr0 : r ≠ 0 := fun e => hc (.inl e)
      have hH : H x ≠ [] := fun e => hc (.inr e)
      have hxl : x ∈ l := hx x (by simp)
      obtain ⟨g, hg⟩ : ∃ g : Int → Int, g = fun z => if z = x then 0 else if z ∈ xs ∧ H z ≠ [] then 0 else run H V xs z := ⟨_, rfl⟩
      have e1 : sm (fun y => if y ∈ xs ∧ H y ≠ [] then 0 else run H V xs y) l = r + sm g l := by
        rw [← sm_one r x g hl hxl]
        refine sm_congr (fun z _ => ?_)
        rw [hg]
        by_cases hz : z = x
        · subst hz
          rw [if_neg (fun h => hxn h.1), if_pos rfl, hr]
          show r = r + (if z = z then 0 else _)
          rw [if_pos rfl]; omega
        · rw [if_neg hz]
          show _ = 0 + (if z = x then 0 else _)
          rw [if_neg hz]; omega
      have e2 : sm (fun y => if y ∈ xs ++ [x] ∧ H y ≠ [] then 0 else run H V (xs ++ [x]) y) l = sm g l + r := by
        have e3 := sm_con (H := H) hl r (hs x) hH
        rw [show sm g l + r = sm g l + sm (fun y => con H r x y) l by rw [e3], ← sm_add]
        refine sm_congr (fun z _ => ?_)
        rw [hg]
        by_cases hz : z = x
        · subst hz
          rw [if_pos ⟨by simp, hH⟩, hst z (.inr rfl)]
          show (0 : Int) = (if z = z then 0 else _) + 0
          rw [if_pos rfl]; rfl
        · have e : (z ∈ xs ++ [x]) ↔ z ∈ xs := by simp [hz]
          show _ = (if z = x then 0 else if z ∈ xs ∧ H z ≠ [] then 0 else run H V xs z) + con H r x z
          rw [if_neg hz]
          simp only [e]
          by_cases hzx : z ∈ xs ∧ H z ≠ []
          · rw [if_pos hzx, if_pos hzx, hst z (.inl hzx.1)]; rfl
          · rw [if_neg hzx, if_neg hzx, hrn z]
      rw [e1, e2]; omega
theorem run_most {H : Int → List Int} {V : Int → Int} {l : List Int} (hl : l.Pairwise (fun a b => a ≠ b)) (hs : ∀ x, ∀ z ∈ H x, z ∈ l) (hV : ∀ y, 0 ≤ V y) (xs : List Int) : Top H V xs → xs.Pairwise (fun a b => a ≠ b) → (∀ x ∈ xs, x ∈ l) → ∀ y ∈ l, run H V xs y ≤ sm V l := by
  induction xs using snocOn with
  | nil => exact fun _ _ _ y hy => sm_ge (fun z _ => hV z) y hy
  | snoc xs x ih =>
    intro ht hp hx y hy
    by_cases hm : y ∈ xs ∨ y = x
    · have := ih ht.init (List.pairwise_append.1 hp).1 (fun y hy => hx y (by simp [hy])) y hy
      rw [run_snoc]
      show run H V xs y + con H (run H V xs x) x y ≤ _
      rw [ht.stays hm]
      omega
    · have e := rest_all hl hs (xs ++ [x]) ht hp hx
      rw [← e]
      unfold rest
      have := sm_ge (f := fun y => if y ∈ xs ++ [x] ∧ H y ≠ [] then 0 else run H V (xs ++ [x]) y) (l := l) (fun z _ => by
        have := run_nn (H := H) hV (xs ++ [x]) z
        show 0 ≤ (if z ∈ xs ++ [x] ∧ H z ≠ [] then (0 : Int) else run H V (xs ++ [x]) z)
        split <;> omega) y hy
      rw [if_neg (fun h => hm (by simpa using h.1))] at this
      exact this
theorem sm_at1 (a : Int) {s : Int} {l : List Int} (hl : l.Pairwise (fun a b => a ≠ b)) (hs : s ∈ l) : sm (at1 s a) l = a := by
  have := sm_one a s (fun _ => 0) hl hs
  rw [sm_zero] at this
  rw [show sm (at1 s a) l = sm (fun z => (if z = s then a else 0) + 0) l from sm_congr (fun z _ => by unfold at1; omega), this]
  omega
/-- What sets out comes in; nobody has more; and who has any lies on a way. -/
theorem shares_all {N : Int} {L : List Ed} {s o a : Int} {P : List Tr} (hG : gok N L = true) (hs : 0 ≤ s ∧ s < N) (ho : 0 ≤ o ∧ o < N) (hso : dsT N L s o ≠ Far) (ha : 0 ≤ a) (hF : Found L s P) :
    shN N L s o a o = a ∧ shN N L s o a s = a ∧ ∀ x, 0 ≤ x ∧ x < N → shN N L s o a x ≤ a ∧ (shN N L s o a x ≠ 0 → Onw N L s o x) := by
  obtain ⟨xs, hxs⟩ : ∃ xs, xs = P.map lastN := ⟨_, rfl⟩
  have heq : ∀ y, run (fun x => hopsL N L x o) (at1 s a) xs y = shN N L s o a y := fun y => by rw [hxs]; exact shN_eq hG hs hso hF y
  have htop := prog_top (a := a) (o := o) hG hs hso hF
  have hwh := fun y => prog_whole (a := a) (o := o) hG hs hso hF y
  have hon := fun y => run_onw (a := a) (o := o) hG hs hso xs y
  have hin : ∀ x ∈ xs, x ∈ ndl N := fun x hx => by
    rw [hxs] at hx
    obtain ⟨t, ht, rfl⟩ := List.mem_map.1 hx
    exact ndl_mem.2 ((hF.best t ht).1.bounds hG hs).2.2.2.1
  have hnd : xs.Pairwise (fun a b => a ≠ b) := by rw [hxs]; exact List.pairwise_map.2 hF.dist
  have hsub : ∀ x, ∀ z ∈ hopsL N L x o, z ∈ ndl N := fun x z hz => ndl_mem.2 ((hopsL_mem hz).facts hG).2.1
  have hV : ∀ y, 0 ≤ at1 s a y := fun y => by unfold at1; split <;> omega
  have hsm := sm_at1 a (ndl_ne N) (ndl_mem.2 hs)
  rw [← hxs] at htop hwh
  have hrest := rest_all (ndl_ne N) hsub xs htop hnd hin
  have hmost := run_most (ndl_ne N) hsub hV xs htop hnd hin
  rw [hsm] at hrest hmost
  simp only [heq] at hwh hon hmost
  refine ⟨?_, ?_, fun x hx => ⟨hmost x (ndl_mem.2 hx), hon x⟩⟩
  · refine Eq.trans ?_ hrest
    unfold rest
    have h1 := sm_one (shN N L s o a o) o (fun _ => 0) (ndl_ne N) (ndl_mem.2 ho)
    rw [sm_zero] at h1
    rw [show shN N L s o a o = shN N L s o a o + 0 by omega, ← h1]
    refine sm_congr (fun z hz => ?_)
    rw [heq]
    by_cases hzo : z = o
    · subst hzo
      rw [if_pos rfl, if_neg (fun h => h.2 (hopsL_self hG ho))]
      omega
    · rw [if_neg hzo]
      by_cases h0 : shN N L s o a z = 0
      · rw [h0]; split <;> rfl
      · have hz' := hon z h0
        have hb := ndl_mem.1 hz
        have hmem : z ∈ xs := by
          rw [hxs]
          by_cases hm : z ∈ P.map lastN
          · exact hm
          · exact absurd (hF.far hG (fun t ht e => hm (List.mem_map.2 ⟨t, ht, e⟩))) hz'.1
        have hne : hopsL N L z o ≠ [] := by
          obtain ⟨y, hy⟩ := tgP.exists hG ho hb hzo hz'.2.1
          have hyf := hy.facts hG
          have hN := gok_parts hG
          have hmy : y ∈ hopsL N L z o := by
            unfold hopsL
            rw [if_pos ⟨hG, by unfold ndB; rw [inB_iff]; omega, by unfold ndB; rw [inB_iff]; omega⟩]
            exact mem_setL.2 ⟨by omega, decide_eq_true hy⟩
          intro e
          rw [e] at hmy
          cases hmy
        rw [if_pos ⟨hmem, hne⟩]
        rfl
  · rw [hwh s]
    have h0 : sm (fun x => con (fun x => hopsL N L x o) (shN N L s o a x) x s) (ndl N) = 0 := by
      rw [← sm_zero (ndl N)]
      refine sm_congr (fun x _ => ?_)
      by_cases h0 : shN N L s o a x = 0
      · rw [h0, con_zero]
      · refine con_not _ (fun hm => ?_)
        have h1 := ((hon x h0).step hG hs (hopsL_mem hm)).2
        have h2 := dsT_self hG hs
        have h3 := dsT_bnd hG hs x
        omega
    rw [h0]
    unfold at1
    rw [if_pos rfl]
    omega

end Go.Proofs.Ytjenjdhoblcohaa
