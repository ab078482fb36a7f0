/- Shares of the model, whatever comes in. -/
import Derived.Test.YtjenjdhoblcohaaMq
import Derived.Test.YtjenjdhoblcohaaKq
import Derived.Test.YtjenjdhoblcohaaLm
import Derived.Test.YtjenjdhoblcohaaKf
import Derived.Test.YtjenjdhoblcohaaTl
import Derived.Deep.DeepCutAuto
import Derived.Test.YtjenjdhoblcohaaSt
import Derived.Test.YtjenjdhoblcohaaGk
import Derived.Test.YtjenjdhoblcohaaReg
namespace Go.Proofs.Ytjenjdhoblcohaa
open Go.RowKit
open Go.Maps

theorem snocOn {α : Type} {motive : List α → Prop} (xs : List α) (nil : motive []) (snoc : ∀ xs x, motive xs → motive (xs ++ [x])) : motive xs := by
  have h : ∀ l : List α, motive l.reverse := fun l => by
    induction l with
    | nil => exact nil
    | cons x l ih => rw [List.reverse_cons]; exact snoc _ _ ih
  rw [← List.reverse_reverse xs]
  exact h _
/-- What the i-th of m hops gets of a units; what node y gets of them. -/
def prt (a : Int) (m i : Nat) : Int := a / (m : Int) + if (i : Int) < a % (m : Int) then 1 else 0
def gn (a : Int) (m : Nat) : Nat → List Int → Int → Int
  | _, [], _ => 0
  | i, z :: zs, y => (if y = z then prt a m i else 0) + gn a m (i + 1) zs y
def con (H : Int → List Int) (a x y : Int) : Int := gn a (H x).length 0 (H x) y
/-- Node x parts what it has among its hops. -/
def giv (H : Int → List Int) (V : Int → Int) (x : Int) : Int → Int := fun y => V y + con H (V x) x y
def run (H : Int → List Int) (V : Int → Int) (xs : List Int) : Int → Int := xs.foldl (giv H) V
theorem run_snoc (H : Int → List Int) (V : Int → Int) (xs : List Int) (x : Int) : run H V (xs ++ [x]) = giv H (run H V xs) x := by unfold run; rw [List.foldl_append]; rfl
theorem prt_zero (m i : Nat) : prt 0 m i = 0 := by unfold prt; rw [Int.zero_ediv, Int.zero_emod, if_neg (by omega)]; rfl
theorem prt_nn {a : Int} (h : 0 ≤ a) (m i : Nat) : 0 ≤ prt a m i := by
  unfold prt
  have := Int.ediv_nonneg h (Int.natCast_nonneg m)
  split <;> omega
theorem gn_zero (m : Nat) (y : Int) : ∀ (i : Nat) (l : List Int), gn 0 m i l y = 0
  | _, [] => rfl
  | i, z :: zs => by unfold gn; rw [gn_zero m y (i + 1) zs, prt_zero]; split <;> rfl
theorem gn_nn {a : Int} (h : 0 ≤ a) (m : Nat) (y : Int) : ∀ (i : Nat) (l : List Int), 0 ≤ gn a m i l y
  | _, [] => Int.le_refl _
  | i, z :: zs => by
    unfold gn
    have h1 := gn_nn h m y (i + 1) zs
    have h2 := prt_nn h m i
    split <;> omega
theorem gn_not (a : Int) (m : Nat) (y : Int) : ∀ (i : Nat) (l : List Int), y ∉ l → gn a m i l y = 0
  | _, [], _ => rfl
  | i, z :: zs, h => by
    unfold gn
    rw [gn_not a m y (i + 1) zs (fun e => h (List.mem_cons_of_mem _ e)), if_neg (fun e => h (by rw [e]; exact List.mem_cons_self))]
    rfl
theorem con_zero (H : Int → List Int) (x y : Int) : con H 0 x y = 0 := gn_zero _ _ _ _
theorem con_not {H : Int → List Int} {x y : Int} (a : Int) (h : y ∉ H x) : con H a x y = 0 := gn_not _ _ _ _ _ h
theorem con_nn (H : Int → List Int) {a : Int} (h : 0 ≤ a) (x y : Int) : 0 ≤ con H a x y := gn_nn h _ _ _ _
theorem run_nn {H : Int → List Int} {V : Int → Int} (h : ∀ y, 0 ≤ V y) (xs : List Int) : ∀ y, 0 ≤ run H V xs y := by
  induction xs using snocOn with
  | nil => exact h
  | snoc xs x ih => intro y; rw [run_snoc]; have := con_nn H (ih x) x y; have := ih y; show 0 ≤ _ + _; omega
/-- A sum over a list of nodes. -/
def sm (f : Int → Int) : List Int → Int
  | [] => 0
  | x :: xs => f x + sm f xs
theorem sm_snoc (f : Int → Int) (x : Int) : ∀ xs : List Int, sm f (xs ++ [x]) = sm f xs + f x
  | [] => by simp [sm]
  | z :: zs => by show f z + sm f (zs ++ [x]) = f z + sm f zs + f x; rw [sm_snoc f x zs]; omega
theorem sm_congr {f g : Int → Int} : ∀ {xs : List Int}, (∀ x ∈ xs, f x = g x) → sm f xs = sm g xs
  | [], _ => rfl
  | z :: zs, h => by show f z + sm f zs = g z + sm g zs; rw [h z List.mem_cons_self, sm_congr (fun x hx => h x (List.mem_cons_of_mem _ hx))]
theorem sm_zero : ∀ xs : List Int, sm (fun _ => 0) xs = 0
  | [] => rfl
  | _ :: zs => by show 0 + sm _ zs = 0; rw [sm_zero zs]; rfl
theorem sm_one (a x : Int) (g : Int → Int) : ∀ {l : List Int}, l.Pairwise (fun a b => a ≠ b) → x ∈ l → sm (fun z => (if z = x then a else 0) + g z) l = a + sm g l
  | [], _, h => by cases h
  | z :: zs, hp, h => by
    rw [List.pairwise_cons] at hp
    show ((if z = x then a else 0) + g z) + sm _ zs = a + (g z + sm g zs)
    by_cases hz : z = x
    · subst hz
      rw [if_pos rfl, sm_congr (g := g) (fun y hy => by rw [if_neg (fun e => hp.1 y hy e.symm)]; omega)]
      omega
    · rw [if_neg hz, sm_one a x g hp.2 (by rcases List.mem_cons.1 h with e | h; exact absurd e.symm hz; exact h)]
      omega
theorem sm_sub (f : Int → Int) {l : List Int} (hl : l.Pairwise (fun a b => a ≠ b)) : ∀ {xs : List Int}, xs.Pairwise (fun a b => a ≠ b) → (∀ x ∈ xs, x ∈ l) → sm f xs = sm (fun z => if z ∈ xs then f z else 0) l
  | [], _, _ => by simp [sm_zero, sm]
  | x :: xs, hp, h => by
    rw [List.pairwise_cons] at hp
    show f x + sm f xs = _
    rw [sm_sub f hl hp.2 (fun z hz => h z (List.mem_cons_of_mem _ hz)), ← sm_one (f x) x _ hl (h x List.mem_cons_self)]
    refine sm_congr (fun z _ => ?_)
    by_cases hz : z = x
    · subst hz
      rw [if_pos rfl, if_neg (fun e => hp.1 z e rfl), if_pos List.mem_cons_self]
      omega
    · by_cases hzx : z ∈ xs
      · rw [if_neg hz, if_pos hzx, if_pos (List.mem_cons_of_mem _ hzx)]; omega
      · rw [if_neg hz, if_neg hzx, if_neg (fun e => by rcases List.mem_cons.1 e with e | e; exact hz e; exact hzx e)]; rfl
/-- An order in which who has parted gets nothing more. -/
def Top (H : Int → List Int) (V : Int → Int) (xs : List Int) : Prop := ∀ pre x post, xs = pre ++ x :: post → ∀ p, (p ∈ pre ∨ p = x) → p ∈ H x → run H V pre x = 0
theorem Top.init {H : Int → List Int} {V : Int → Int} {xs : List Int} {x : Int} (h : Top H V (xs ++ [x])) : Top H V xs := fun pre z post e => h pre z (post ++ [x]) (by rw [e]; simp)
theorem Top.fix {H : Int → List Int} {V : Int → Int} (xs : List Int) : Top H V xs → ∀ y, run H V xs y = V y + sm (fun x => con H (run H V xs x) x y) xs := by
  induction xs using snocOn with
  | nil => intro _ y; show V y = V y + 0; omega
  | snoc xs x ih =>
    intro h y
    have hk : ∀ p, (p ∈ xs ∨ p = x) → run H V (xs ++ [x]) p = run H V xs p := fun p hp => by
      rw [run_snoc]
      show _ + con H (run H V xs x) x p = _
      by_cases hm : p ∈ H x
      · rw [h xs x [] rfl p hp hm, con_zero]; omega
      · rw [con_not _ hm]; omega
    rw [sm_snoc, sm_congr (g := fun z => con H (run H V xs z) z y) (fun z hz => by rw [hk z (.inl hz)]), hk x (.inr rfl)]
    have := ih h.init y
    rw [run_snoc]
    show run H V xs y + con H (run H V xs x) x y = _
    omega
theorem Top.whole {H : Int → List Int} {V : Int → Int} {xs l : List Int} (h : Top H V xs) (hl : l.Pairwise (fun a b => a ≠ b)) (hx : xs.Pairwise (fun a b => a ≠ b)) (hsub : ∀ x ∈ xs, x ∈ l) (hz : ∀ x ∈ l, x ∉ xs → run H V xs x = 0 ∨ H x = []) (y : Int) :
    run H V xs y = V y + sm (fun x => con H (run H V xs x) x y) l := by
  rw [Top.fix xs h y, sm_sub _ hl hx hsub]
  congr 1
  refine sm_congr (fun z hzl => ?_)
  by_cases hm : z ∈ xs
  · rw [if_pos hm]
  · rw [if_neg hm]
    rcases hz z hzl hm with e | e
    · rw [e, con_zero]
    · rw [con_not _ (by rw [e]; exact List.not_mem_nil)]
/-- What is parted along a rank is one and the same. -/
theorem fix_one {H : Int → List Int} {V W U : Int → Int} {l : List Int} (r : Int → Nat) (hr : ∀ x y, y ∈ H x → r x < r y) (hW : ∀ y, W y = V y + sm (fun x => con H (W x) x y) l) (hU : ∀ y, U y = V y + sm (fun x => con H (U x) x y) l) : ∀ (n : Nat) (y : Int), r y < n → W y = U y
  | 0, y, h => absurd h (by omega)
  | n + 1, y, h => by
    rw [hW y, hU y]
    congr 1
    refine sm_congr (fun x _ => ?_)
    by_cases hm : y ∈ H x
    · rw [fix_one r hr hW hU n x (by have := hr x y hm; omega)]
    · rw [con_not _ hm, con_not _ hm]

theorem hopsL_mem {N : Int} {L : List Ed} {x o z : Int} (h : z ∈ hopsL N L x o) : tgP N L o x z := by
  unfold hopsL at h
  split at h
  · exact of_decide_eq_true (mem_setL.1 h).2
  · cases h
theorem hopsL_self {N : Int} {L : List Ed} {o : Int} (hG : gok N L = true) (ho : 0 ≤ o ∧ o < N) : hopsL N L o o = [] := by
  unfold hopsL
  split
  · exact setL_nil (fun z => decide_eq_false (tgP_self hG ho))
  · rfl
/-- Units at one node. -/
def at1 (s a : Int) : Int → Int := fun y => if y = s then a else 0
def ndl (N : Int) : List Int := (List.range N.toNat).map fun (i : Nat) => (i : Int)
theorem ndl_mem {N x : Int} : x ∈ ndl N ↔ 0 ≤ x ∧ x < N := by
  unfold ndl
  rw [List.mem_map]
  constructor
  · rintro ⟨i, hi, rfl⟩; rw [List.mem_range] at hi; omega
  · intro h; exact ⟨x.toNat, by rw [List.mem_range]; omega, by omega⟩
theorem ndl_ne (N : Int) : (ndl N).Pairwise (fun a b => a ≠ b) := by
  unfold ndl
  rw [List.pairwise_map]
  exact List.pairwise_lt_range.imp (fun h e => by omega)
/-- x lies on a cheapest way from s to o. -/
def Onw (N : Int) (L : List Ed) (s o x : Int) : Prop := dsT N L s x ≠ Far ∧ dsT N L x o ≠ Far ∧ dsT N L s x + dsT N L x o = dsT N L s o
theorem Onw.step {N : Int} {L : List Ed} {s o x z : Int} (hG : gok N L = true) (hs : 0 ≤ s ∧ s < N) (h : Onw N L s o x) (ht : tgP N L o x z) : Onw N L s o z ∧ dsT N L s x < dsT N L s z := by
  obtain ⟨hx, hz, _, _⟩ := ht.facts hG
  obtain ⟨h1, h2, h3⟩ := ht
  obtain ⟨o1, o2, o3⟩ := h
  have b1 := dsT_bnd hG hs x
  have b2 := dsT_bnd hG hx z
  have b3 := dsT_bnd hG hz o
  have b4 := dsT_bnd hG hs z
  have b5 := dsT_small hG hs o1
  have b6 := dsT_small hG hz h2
  have e := dsT_edge hG hx h1
  have c := cst_bound hG x z
  have c2 : cst L x z < Far := by unfold Far at *; omega
  have t1 := dsT_tri (i := s) (j := z) (k := x) hG hs (by unfold Far at *; omega) (by unfold Far at *; omega)
  have b7 := dsT_small hG hx o2
  have f1 : dsT N L s z ≠ Far := by unfold Far at *; omega
  have t2 := dsT_tri (i := s) (j := o) (k := z) hG hs (by unfold Far at *; omega) (by unfold Far at *; omega)
  exact ⟨⟨f1, h2, by omega⟩, by omega⟩
theorem run_onw {N : Int} {L : List Ed} {s o a : Int} (hG : gok N L = true) (hs : 0 ≤ s ∧ s < N) (hso : dsT N L s o ≠ Far) (xs : List Int) : ∀ y, run (fun x => hopsL N L x o) (at1 s a) xs y ≠ 0 → Onw N L s o y := by
  induction xs using snocOn with
  | nil =>
    intro y h
    have e : y = s := by
      by_cases e : y = s
      · exact e
      · exact absurd (if_neg e) h
    subst e
    have := dsT_self hG hs
    exact ⟨by rw [this]; unfold Far; omega, hso, by omega⟩
  | snoc xs x ih =>
    intro y h
    rw [run_snoc] at h
    by_cases h1 : run (fun x => hopsL N L x o) (at1 s a) xs y = 0
    · have h2 : con (fun x => hopsL N L x o) (run (fun x => hopsL N L x o) (at1 s a) xs x) x y ≠ 0 := fun e => h (by show _ + _ = _; rw [h1, e]; rfl)
      by_cases hm : y ∈ hopsL N L x o
      · by_cases h3 : run (fun x => hopsL N L x o) (at1 s a) xs x = 0
        · rw [h3, con_zero] at h2; exact absurd rfl h2
        · exact ((ih x h3).step hG hs (hopsL_mem hm)).1
      · exact absurd (con_not _ hm) h2
    · exact ih y h1
theorem prog_top {N : Int} {L : List Ed} {s o a : Int} {P : List Tr} (hG : gok N L = true) (hs : 0 ≤ s ∧ s < N) (hso : dsT N L s o ≠ Far) (hF : Found L s P) : Top (fun x => hopsL N L x o) (at1 s a) (P.map lastN) := by
  intro pre x post e p hp hm
  by_cases h0 : run (fun x => hopsL N L x o) (at1 s a) pre x = 0
  · exact h0
  · exfalso
    have hx := run_onw hG hs hso pre x h0
    have hlt := (hx.step hG hs (hopsL_mem hm)).2
    have hix : (P.map lastN)[pre.length]? = some x := by rw [e]; simp
    rw [List.getElem?_map, Option.map_eq_some_iff] at hix
    obtain ⟨t, ht, rfl⟩ := hix
    rcases hp with hp | rfl
    · obtain ⟨i, hi, hpi⟩ := List.mem_iff_getElem.1 hp
      have hpx : (P.map lastN)[i]? = some p := by rw [e, List.getElem?_append_left hi, List.getElem?_eq_getElem hi, hpi]
      rw [List.getElem?_map, Option.map_eq_some_iff] at hpx
      obtain ⟨u, hu, rfl⟩ := hpx
      have := hF.le hu ht hi
      rw [hF.dis hG hs (List.mem_of_getElem? hu), hF.dis hG hs (List.mem_of_getElem? ht)] at hlt
      omega
    · omega
theorem prog_whole {N : Int} {L : List Ed} {s o a : Int} {P : List Tr} (hG : gok N L = true) (hs : 0 ≤ s ∧ s < N) (hso : dsT N L s o ≠ Far) (hF : Found L s P) (y : Int) :
    run (fun x => hopsL N L x o) (at1 s a) (P.map lastN) y = at1 s a y + sm (fun x => con (fun x => hopsL N L x o) (run (fun x => hopsL N L x o) (at1 s a) (P.map lastN) x) x y) (ndl N) := by
  refine (prog_top hG hs hso hF).whole (ndl_ne N) (List.pairwise_map.2 hF.dist) (fun x hx => ?_) (fun x _ hx => ?_) y
  · obtain ⟨t, ht, rfl⟩ := List.mem_map.1 hx
    exact ndl_mem.2 ((hF.best t ht).1.bounds hG hs).2.2.2.1
  · refine .inl ?_
    by_cases h0 : run (fun x => hopsL N L x o) (at1 s a) (P.map lastN) x = 0
    · exact h0
    · exact absurd (hF.far hG (fun t ht e => hx (List.mem_map.2 ⟨t, ht, e⟩))) (run_onw hG hs hso _ x h0).1
/-- The model's picks: of those that have units the farthest from o. -/
inductive Pks (H : Int → List Int) (V : Int → Int) (l : List Int) (o : Int) (d : Int → Int) : List Int → Prop
  | nil : Pks H V l o d []
  | snoc (ys : List Int) (x : Int) (h : Pks H V l o d ys) (hl : x ∈ l) (hn : x ∉ ys) (ho : x ≠ o) (hp : 0 < run H V ys x) (hm : ∀ y ∈ l, y ∉ ys → y ≠ o → 0 < run H V ys y → d y ≤ d x) : Pks H V l o d (ys ++ [x])
variable {H : Int → List Int} {V : Int → Int} {l : List Int} {o : Int} {d : Int → Int} {ys : List Int}
theorem Pks.sub (h : Pks H V l o d ys) : (∀ x ∈ ys, x ∈ l) ∧ o ∉ ys ∧ ys.Pairwise (fun a b => a ≠ b) := by
  induction h with
  | nil => exact ⟨nofun, nofun, .nil⟩
  | snoc ys x h hl hn ho hp hm ih =>
    refine ⟨fun z hz => ?_, fun hz => ?_, ?_⟩
    · rcases List.mem_append.1 hz with hz | hz
      · exact ih.1 z hz
      · rw [List.mem_singleton] at hz; rw [hz]; exact hl
    · rcases List.mem_append.1 hz with hz | hz
      · exact ih.2.1 hz
      · rw [List.mem_singleton] at hz; exact ho hz.symm
    · rw [List.pairwise_append]
      exact ⟨ih.2.2, List.pairwise_singleton _ _, fun a ha b hb e => hn (by rw [List.mem_singleton] at hb; rw [← hb, ← e]; exact ha)⟩
theorem Pks.low (h : Pks H V l o d ys) (hd : ∀ x y, y ∈ H x → d y < d x) (hV : ∀ y, 0 ≤ V y) : ∀ p ∈ ys, ∀ y ∈ l, y ∉ ys → y ≠ o → 0 < run H V ys y → d y ≤ d p := by
  induction h with
  | nil => exact nofun
  | snoc ys x h hl hn ho hp hm ih =>
    intro p hpm y hy hyn hyo hyp
    have hyn' : y ∉ ys := fun e => hyn (List.mem_append.2 (.inl e))
    have hx : d y ≤ d x := by
      by_cases h0 : 0 < run H V ys y
      · exact hm y hy hyn' hyo h0
      · have h1 := run_nn (H := H) hV ys y
        rw [run_snoc] at hyp
        by_cases hmx : y ∈ H x
        · exact Int.le_of_lt (hd x y hmx)
        · have hyp' : 0 < run H V ys y + con H (run H V ys x) x y := hyp
          rw [con_not _ hmx] at hyp'
          omega
    rcases List.mem_append.1 hpm with hpm | hpm
    · exact Int.le_trans hx (ih p hpm x hl hn ho hp)
    · rw [List.mem_singleton] at hpm; rw [hpm]; exact hx
theorem snoc_split {ys pre post : List Int} {x z : Int} (h : ys ++ [x] = pre ++ z :: post) : (pre = ys ∧ z = x) ∨ ∃ post', ys = pre ++ z :: post' := by
  induction post using snocOn with
  | nil =>
    have := List.append_inj' h rfl
    exact .inl ⟨this.1.symm, by have h2 := this.2; simp at h2; exact h2.symm⟩
  | snoc post' w _ =>
    rw [show pre ++ z :: (post' ++ [w]) = (pre ++ z :: post') ++ [w] by simp] at h
    exact .inr ⟨post', (List.append_inj' h rfl).1⟩
theorem Pks.top (h : Pks H V l o d ys) (hd : ∀ x y, y ∈ H x → d y < d x) (hV : ∀ y, 0 ≤ V y) : Top H V ys := by
  induction h with
  | nil => intro pre x post e; simp at e
  | snoc ys x h hl hn ho hp hm ih =>
    intro pre z post e p hpm hz
    rcases snoc_split e with ⟨rfl, rfl⟩ | ⟨post', e'⟩
    · exfalso
      have h1 := hd z p hz
      rcases hpm with hpm | rfl
      · have := h.low hd hV p hpm z hl hn ho hp
        omega
      · omega
    · exact ih pre z post' e' p hpm hz
/-- Whichever order: program and model part alike. -/
theorem shares_one {N : Int} {L : List Ed} {s o a : Int} {P : List Tr} (hG : gok N L = true) (hs : 0 ≤ s ∧ s < N) (ho : 0 ≤ o ∧ o < N) (hso : dsT N L s o ≠ Far) (ha : 0 ≤ a) (hF : Found L s P) {ys : List Int}
    (h : Pks (fun x => hopsL N L x o) (at1 s a) (ndl N) o (fun x => dsT N L x o) ys) (he : ∀ y ∈ ndl N, y ∉ ys → y ≠ o → ¬ 0 < run (fun x => hopsL N L x o) (at1 s a) ys y) (y : Int) :
    run (fun x => hopsL N L x o) (at1 s a) (P.map lastN) y = run (fun x => hopsL N L x o) (at1 s a) ys y := by
  have hV : ∀ y, 0 ≤ at1 s a y := fun y => by unfold at1; split <;> omega
  have hd : ∀ x y, y ∈ hopsL N L x o → dsT N L y o < dsT N L x o := fun x y hy => ((hopsL_mem hy).facts hG).2.2.1
  refine fix_one (l := ndl N) (fun z => (1000000 - dsT N L z o).toNat) (fun x y hy => ?_) (prog_whole hG hs hso hF) (fun y => (h.top hd hV).whole (ndl_ne N) h.sub.2.2 h.sub.1 (fun x hx hn => ?_) y) _ y (Nat.lt_succ_self _)
  · have h1 := hd x y hy
    have hf := (hopsL_mem hy).facts hG
    have h2 := dsT_bnd hG hf.1 o
    have h3 := dsT_bnd hG hf.2.1 o
    unfold Far at h2 h3
    show (1000000 - dsT N L x o).toNat < (1000000 - dsT N L y o).toNat
    omega
  · by_cases hxo : x = o
    · exact .inr (by rw [hxo]; exact hopsL_self hG ho)
    · have h1 := he x hx hn hxo
      have h2 := run_nn (H := fun x => hopsL N L x o) hV ys x
      exact .inl (by omega)

theorem prt_le {a : Int} (h : 0 ≤ a) {m : Nat} (hm : 0 < m) (i : Nat) : prt a m i ≤ a := by
  unfold prt
  have h1 := Int.emod_add_mul_ediv a (m : Int)
  have h2 := Int.emod_nonneg a (b := (m : Int)) (by omega)
  have h3 := Int.ediv_nonneg h (Int.natCast_nonneg m)
  have h4 : a / (m : Int) ≤ (m : Int) * (a / (m : Int)) := by
    have := Int.mul_le_mul_of_nonneg_right (a := 1) (b := (m : Int)) (c := a / (m : Int)) (by omega) h3
    omega
  split <;> omega
theorem gn_le {a : Int} (h : 0 ≤ a) {m : Nat} (hm : 0 < m) (y : Int) : ∀ (i : Nat) {l : List Int}, l.Pairwise (fun a b => a ≠ b) → gn a m i l y ≤ a
  | _, [], _ => h
  | i, z :: zs, hp => by
    rw [List.pairwise_cons] at hp
    unfold gn
    by_cases hy : y = z
    · rw [if_pos hy, gn_not a m y (i + 1) zs (fun e => hp.1 y e hy.symm)]
      have := prt_le h hm i
      omega
    · rw [if_neg hy]
      have := gn_le h hm y (i + 1) hp.2
      omega
theorem con_le {H : Int → List Int} {a : Int} (h : 0 ≤ a) (x y : Int) (hp : (H x).Pairwise (fun a b => a ≠ b)) : con H a x y ≤ a := by
  unfold con
  rcases hl : H x with _ | ⟨z, zs⟩
  · exact h
  · exact gn_le h (by simp) y 0 (by rw [← hl]; exact hp)
theorem run_le {H : Int → List Int} {V : Int → Int} {B : Int} (hp : ∀ x, (H x).Pairwise (fun a b => a ≠ b)) (h0 : ∀ y, 0 ≤ V y) (hB : ∀ y, V y ≤ B) (xs : List Int) : ∀ y, run H V xs y ≤ B * 2 ^ xs.length := by
  induction xs using snocOn with
  | nil => intro y; have := hB y; show V y ≤ _; simpa using this
  | snoc xs x ih =>
    intro y
    rw [run_snoc]
    have h1 := con_le (run_nn (H := H) h0 xs x) x y (hp x)
    have h2 := ih x
    have h3 := ih y
    show run H V xs y + con H (run H V xs x) x y ≤ _
    rw [List.length_append, List.length_singleton, Int.pow_succ, ← Int.mul_assoc]
    omega
theorem hopsL_ne (N : Int) (L : List Ed) (x o : Int) : (hopsL N L x o).Pairwise (fun a b => a ≠ b) := by
  unfold hopsL
  split
  · exact (setL_sorted _).imp (fun h e => by omega)
  · exact .nil
/-- The first i hops have been given theirs. -/
theorem gn_take (a : Int) (m : Nat) (y : Int) : ∀ (l : List Int) (j i : Nat) (z : Int), l[i]? = some z → gn a m j (l.take (i + 1)) y = gn a m j (l.take i) y + if y = z then prt a m (j + i) else 0
  | [], _, _, _, h => by simp at h
  | u :: us, j, 0, z, h => by
    simp at h
    subst h
    simp [gn]
  | u :: us, j, i + 1, z, h => by
    have h' : us[i]? = some z := by simpa using h
    rw [List.take_succ_cons, List.take_succ_cons]
    show (if y = u then prt a m j else 0) + gn a m (j + 1) (us.take (i + 1)) y = (if y = u then prt a m j else 0) + gn a m (j + 1) (us.take i) y + _
    rw [gn_take a m y us (j + 1) i z h', show j + 1 + i = j + (i + 1) by omega]
    omega
/-- What Shares answers: by whatever list of trails that is found. -/
noncomputable def shN (N : Int) (L : List Ed) (s o a : Int) : Int → Int := open Classical in if h : ∃ P, Found L s P then run (fun x => hopsL N L x o) (at1 s a) (h.choose.map lastN) else fun _ => 0
theorem shN_eq {N : Int} {L : List Ed} {s o a : Int} {P : List Tr} (hG : gok N L = true) (hs : 0 ≤ s ∧ s < N) (hso : dsT N L s o ≠ Far) (hF : Found L s P) (y : Int) : run (fun x => hopsL N L x o) (at1 s a) (P.map lastN) y = shN N L s o a y := by
  unfold shN
  have hex : ∃ P, Found L s P := ⟨P, hF⟩
  rw [dif_pos hex]
  refine fix_one (l := ndl N) (fun z => (1000000 - dsT N L z o).toNat) (fun x y hy => ?_) (prog_whole hG hs hso hF) (prog_whole hG hs hso hex.choose_spec) _ y (Nat.lt_succ_self _)
  have hf := (hopsL_mem hy).facts hG
  have h2 := dsT_bnd hG hf.1 o
  have h3 := dsT_bnd hG hf.2.1 o
  unfold Far at h2 h3
  show (1000000 - dsT N L x o).toNat < (1000000 - dsT N L y o).toNat
  omega
set_option maxHeartbeats 2000000 in
theorem portion_any (a : Int) (m i : Nat) (w : World) (ha : 0 ≤ a) (ha2 : a ≤ 1000000000) (hm : 0 < m) :
    Calls Try.prog 83 #[.int .i64 a, .int .i64 (m : Int), .int .i64 (i : Int)] w fun e w' => e = .returned (.int .i64 (prt a m i)) ∧ w = w' := by
  have h1 : a.tmod (m : Int) = a % (m : Int) := Int.tmod_eq_emod_of_nonneg ha
  have h2 : a.tdiv (m : Int) = a / (m : Int) := Int.tdiv_eq_ediv_of_nonneg ha
  have h3 := prt_le ha hm i
  have h4 := Int.ediv_nonneg ha (Int.natCast_nonneg m)
  have hm0 : ¬ ((m : Int) = 0) := by omega
  have hm1 : ((m : Int) == 0) = false := by simp; omega
  have hm2 : ¬ (m = 0) := by omega
  have h5 := Int.emod_nonneg a (b := (m : Int)) hm0
  have h6 := Int.emod_lt_of_pos a (b := (m : Int)) (by omega)
  obtain ⟨q, hq⟩ : ∃ q, q = a / (m : Int) := ⟨_, rfl⟩
  obtain ⟨r, hr⟩ : ∃ r, r = a % (m : Int) := ⟨_, rfl⟩
  unfold prt at h3 ⊢
  rw [← hq, ← hr] at h3 ⊢
  rw [← hq] at h4 h2
  rw [← hr] at h1
  clear hq hr h5 h6
  by_cases hlt : (i : Int) < r
  · rw [if_pos hlt] at h3 ⊢
    have hw : IntKind.i64.wrap (q + 1) = q + 1 := by rw [IntKind.wrap_i64]; omega
    have hwq : IntKind.i64.wrap q = q := by rw [IntKind.wrap_i64]; omega
    go_enter Try.func83, Try.ntmps83
    go_wp2
    go_ret
    exact ⟨rfl, rfl⟩
  · rw [if_neg hlt] at h3 ⊢
    have hwq : IntKind.i64.wrap q = q := by rw [IntKind.wrap_i64]; omega
    go_enter Try.func83, Try.ntmps83
    go_wp2
    go_ret
    exact ⟨rfl, rfl⟩

/-- The model's pick among the first j nodes. -/
def PkR (o : Int) (d F : Int → Int) (X : Int → Bool) (j : Nat) (a : Int) : Prop :=
  (a = -1 ∧ ∀ y : Nat, y < j → X (y : Int) = false → (y : Int) ≠ o → ¬ 0 < F (y : Int)) ∨
  (∃ b : Nat, a = (b : Int) ∧ b < j ∧ X (b : Int) = false ∧ (b : Int) ≠ o ∧ 0 < F (b : Int) ∧ ∀ y : Nat, y < j → X (y : Int) = false → (y : Int) ≠ o → 0 < F (y : Int) → d (y : Int) ≤ d (b : Int))
section
variable {o : Int} {d F : Int → Int} {X : Int → Bool} {j b : Nat} {a : Int}
theorem PkR.start : PkR o d F X 0 (-1) := .inl ⟨rfl, fun _ h => absurd h (Nat.not_lt_zero _)⟩
theorem PkR.skip (h : PkR o d F X j a) (hn : X (j : Int) = false → (j : Int) ≠ o → ¬ 0 < F (j : Int)) : PkR o d F X (j + 1) a := by
  rcases h with ⟨h1, h2⟩ | ⟨b, h1, h2, h3, h4, h5, h6⟩
  · refine .inl ⟨h1, fun y hy => ?_⟩
    rcases Nat.lt_or_eq_of_le (Nat.le_of_lt_succ hy) with hy | rfl
    · exact h2 y hy
    · exact hn
  · refine .inr ⟨b, h1, by omega, h3, h4, h5, fun y hy e1 e2 e3 => ?_⟩
    rcases Nat.lt_or_eq_of_le (Nat.le_of_lt_succ hy) with hy | rfl
    · exact h6 y hy e1 e2 e3
    · exact absurd e3 (hn e1 e2)
theorem PkR.first (h : PkR o d F X j a) (ha : a < 0) (h1 : X (j : Int) = false) (h2 : (j : Int) ≠ o) (h3 : 0 < F (j : Int)) : PkR o d F X (j + 1) (j : Int) := by
  rcases h with ⟨_, h4⟩ | ⟨b, e, _⟩
  · refine .inr ⟨j, rfl, by omega, h1, h2, h3, fun y hy e1 e2 e3 => ?_⟩
    rcases Nat.lt_or_eq_of_le (Nat.le_of_lt_succ hy) with hy | rfl
    · exact absurd e3 (h4 y hy e1 e2)
    · exact Int.le_refl _
  · omega
theorem PkR.more (h : PkR o d F X j (b : Int)) (h1 : X (j : Int) = false) (h2 : (j : Int) ≠ o) (h3 : 0 < F (j : Int)) (hd : d (b : Int) < d (j : Int)) : PkR o d F X (j + 1) (j : Int) := by
  rcases h with ⟨e, _⟩ | ⟨b', e, h4, h5, h6, h7, h8⟩
  · omega
  · obtain rfl : b = b' := by omega
    refine .inr ⟨j, rfl, by omega, h1, h2, h3, fun y hy e1 e2 e3 => ?_⟩
    rcases Nat.lt_or_eq_of_le (Nat.le_of_lt_succ hy) with hy | rfl
    · exact Int.le_trans (h8 y hy e1 e2 e3) (Int.le_of_lt hd)
    · exact Int.le_refl _
theorem PkR.less (h : PkR o d F X j (b : Int)) (hd : ¬ d (b : Int) < d (j : Int)) : PkR o d F X (j + 1) (b : Int) := by
  rcases h with ⟨e, _⟩ | ⟨b', e, h4, h5, h6, h7, h8⟩
  · omega
  · obtain rfl : b = b' := by omega
    refine .inr ⟨b, rfl, by omega, h5, h6, h7, fun y hy e1 e2 e3 => ?_⟩
    rcases Nat.lt_or_eq_of_le (Nat.le_of_lt_succ hy) with hy | rfl
    · exact h8 y hy e1 e2 e3
    · omega
end
/-- What holds of the model's Shares behind k picks. -/
structure ShI (M : Nat) (L : List Ed) (s o a : Int) (k : Nat) (F : Int → Int) (X : Int → Bool) (ys : List Int) : Prop where
  picks : Pks (fun x => hopsL (M : Int) L x o) (at1 s a) (ndl (M : Int)) o (fun x => dsT (M : Int) L x o) ys
  mark : ∀ y, X y = true ↔ y ∈ ys
  all : F = run (fun x => hopsL (M : Int) L x o) (at1 s a) ys
  len : ys.length = k
theorem ShI.start (M : Nat) (L : List Ed) (s o a : Int) : ShI M L s o a 0 (at1 s a) (fun _ => false) [] := ⟨.nil, fun y => by simp, rfl, rfl⟩
theorem ShI.next {M : Nat} {L : List Ed} {s o a : Int} {k b : Nat} {F : Int → Int} {X : Int → Bool} {ys : List Int} (h : ShI M L s o a k F X ys) (hp : PkR o (fun x => dsT (M : Int) L x o) F X M (b : Int)) :
    ShI M L s o a (k + 1) (giv (fun x => hopsL (M : Int) L x o) F (b : Int)) (fun x => if x = (b : Int) then true else X x) (ys ++ [(b : Int)]) := by
  rcases hp with ⟨e, _⟩ | ⟨b', e, h1, h2, h3, h4, h5⟩
  · omega
  · obtain rfl : b = b' := by omega
    have hn : (b : Int) ∉ ys := fun e => by have := (h.mark _).2 e; rw [h2] at this; cases this
    refine ⟨.snoc ys _ h.picks (ndl_mem.2 ⟨by omega, by omega⟩) hn h3 (by rw [← h.all]; exact h4) (fun y hy hyn hyo hyp => ?_), fun y => ?_, by rw [run_snoc, ← h.all], by rw [List.length_append, h.len]; rfl⟩
    · obtain ⟨hy0, hy1⟩ := ndl_mem.1 hy
      obtain ⟨q, rfl⟩ : ∃ q : Nat, y = (q : Int) := ⟨y.toNat, by omega⟩
      refine h5 q (by omega) ?_ hyo (by rw [h.all]; exact hyp)
      cases hX : X (q : Int) with
      | false => rfl
      | true => exact absurd ((h.mark _).1 hX) hyn
    · rw [List.mem_append, List.mem_singleton]
      by_cases hy : y = (b : Int)
      · simp [hy]
      · simp [hy, h.mark y]
theorem ShI.fin {M : Nat} {L : List Ed} {s o a : Int} {k : Nat} {F : Int → Int} {X : Int → Bool} {ys : List Int} {P : List Tr} (h : ShI M L s o a k F X ys) (hG : gok (M : Int) L = true) (hs : 0 ≤ s ∧ s < (M : Int)) (ho : 0 ≤ o ∧ o < (M : Int)) (hso : dsT (M : Int) L s o ≠ Far) (ha : 0 ≤ a) (hF : Found L s P)
    (hp : PkR o (fun x => dsT (M : Int) L x o) F X M (-1)) (y : Int) : F y = shN (M : Int) L s o a y := by
  rcases hp with ⟨_, h1⟩ | ⟨b, e, _⟩
  · rw [← shN_eq hG hs hso hF y, shares_one hG hs ho hso ha hF h.picks (fun z hz hzn hzo => ?_) y, h.all]
    obtain ⟨hz0, hz1⟩ := ndl_mem.1 hz
    obtain ⟨q, rfl⟩ : ∃ q : Nat, z = (q : Int) := ⟨z.toNat, by omega⟩
    rw [← h.all]
    refine h1 q (by omega) ?_ hzo
    cases hX : X (q : Int) with
    | false => rfl
    | true => exact absurd ((h.mark _).1 hX) hzn
  · omega
theorem ShI.lt {M : Nat} {L : List Ed} {s o a : Int} {k : Nat} {F : Int → Int} {X : Int → Bool} {ys : List Int} (h : ShI M L s o a k F X ys) (ho : 0 ≤ o ∧ o < (M : Int)) : k < M := by
  have h1 := h.picks.sub
  have h2 := nodup_bound M (ys ++ [o]) (by
    rw [List.pairwise_append]
    exact ⟨h1.2.2, List.pairwise_singleton _ _, fun x hx z hz e => h1.2.1 (by rw [List.mem_singleton] at hz; rw [← hz, ← e]; exact hx)⟩) (fun z hz => by
    rcases List.mem_append.1 hz with hz | hz
    · exact ndl_mem.1 (h1.1 z hz)
    · rw [List.mem_singleton] at hz; rw [hz]; exact ho)
  rw [List.length_append, h.len, List.length_singleton] at h2
  omega
theorem ShI.bnd {M : Nat} {L : List Ed} {s o a : Int} {k : Nat} {F : Int → Int} {X : Int → Bool} {ys : List Int} (h : ShI M L s o a k F X ys) (hM : M ≤ 10) (ho : 0 ≤ o ∧ o < (M : Int)) (ha0 : 0 ≤ a) (ha : a ≤ 100000) (y : Int) : 0 ≤ F y ∧ F y ≤ 102400000 := by
  have hk := h.lt ho
  have v0 : ∀ y, 0 ≤ at1 s a y := fun y => by unfold at1; split <;> omega
  have v1 : ∀ y, at1 s a y ≤ 100000 := fun y => by unfold at1; split <;> omega
  have h1 := run_nn (H := fun x => hopsL (M : Int) L x o) v0 ys y
  have h2 := run_le (H := fun x => hopsL (M : Int) L x o) (fun x => hopsL_ne _ _ _ _) v0 v1 ys y
  rw [← h.all] at h1 h2
  have h4 : (2 : Int) ^ ys.length ≤ 1024 := by
    rw [h.len]
    have : k = 0 ∨ k = 1 ∨ k = 2 ∨ k = 3 ∨ k = 4 ∨ k = 5 ∨ k = 6 ∨ k = 7 ∨ k = 8 ∨ k = 9 ∨ k = 10 := by omega
    rcases this with rfl | rfl | rfl | rfl | rfl | rfl | rfl | rfl | rfl | rfl | rfl <;> decide
  exact ⟨h1, by omega⟩
/-- Two tables of one's own: units, marks. -/
structure SM (v w : World) (M g d : Nat) (F : Int → Int) (X : Int → Bool) : Prop where
  below : Below v.heap.size v w
  row : w.ownsRow v.heap.size 3 1 (.slice (some ⟨g, 0, none⟩) M M) M (ints (tabI M F))
  mark : w.ownsRow v.heap.size 4 1 (.slice (some ⟨d, 0, none⟩) M M) M (tabB M X)
  ne : g ≠ d
section
variable {v w w2 : World} {M g d : Nat} {F : Int → Int} {X : Int → Bool}
theorem SM.grow (h : SM v w M g d F X) (hb : Below w.heap.size w w2) : SM v w2 M g d F X := ⟨h.below.trans (hb.mono h.below.size), ownsRow_below h.row hb, ownsRow_below h.mark hb, h.ne⟩
theorem SM.at (h : SM v w M g d F X) {i : Nat} (hi : i < M) : w.cell? ⟨g, i, none⟩ = some (.int .i64 (F (i : Int))) := by
  rw [h.row.cellAt _ (by omega)]; exact ints_at' (tabI_at _ hi)
theorem SM.bit (h : SM v w M g d F X) {i : Nat} (hi : i < M) : w.cell? ⟨d, i, none⟩ = some (.bool (X (i : Int))) := by
  rw [h.mark.cellAt _ (by omega)]; exact tabB_at _ hi
theorem SM.frz (h : SM v w M g d F X) (i : Nat) : w.frozen? ⟨g, i, none⟩ = false ∧ w.frozen? ⟨d, i, none⟩ = false := ⟨h.row.frozenAt i, h.mark.frozenAt i⟩
theorem SM.set (h : SM v w M g d F X) (i : Nat) (z : Int) : SM v (w.setCell ⟨g, i, none⟩ (.int .i64 z)) M g d (fun x => if x = (i : Int) then z else F x) X :=
  ⟨h.below.setCell (p := ⟨g, i, none⟩) (h.row.lt g rfl).1 _, by rw [← tabI_set, ← ints_set]; exact (h.row.stored i _).1, ownsRow_aside h.mark h.row (fun e => h.ne e.symm), h.ne⟩
theorem SM.put (h : SM v w M g d F X) (i : Nat) : SM v (w.setCell ⟨d, i, none⟩ (.bool true)) M g d F (fun x => if x = (i : Int) then true else X x) :=
  ⟨h.below.setCell (p := ⟨d, i, none⟩) (h.mark.lt d rfl).1 _, ownsRow_aside h.row h.mark h.ne, by rw [← tabB_set]; exact (h.mark.stored i _).1, h.ne⟩
end

theorem hopsL_ten (N : Int) (L : List Ed) (x y : Int) : (hopsL N L x y).length ≤ 10 := by
  unfold hopsL
  split
  · exact nodup_bound 10 _ ((setL_sorted _).imp (fun h e => by omega)) (fun z hz => (mem_setL.1 hz).1)
  · simp
set_option maxRecDepth 100000 in
set_option maxHeartbeats 4000000 in
theorem ish_yes (M lo hi n : Nat) (v : Value) (L : List Ed) (s o : Nat) (a : Int) (w : World) (hL : L.length = n) (hr : Row 3 w lo hi v n (flat L)) (hh : hi ≤ w.heap.size) (hG : gok (M : Int) L = true) (hs : s < M) (hcn : 0 < cntN (M : Int) L (s : Int) (o : Int)) (hso : dsT (M : Int) L (s : Int) (o : Int) ≠ Far) (ha1 : 1 ≤ a) (ha2 : a ≤ 100000) :
    Calls Try.prog 45 #[.agg #[.int .i64 (M : Int), v], .int .i64 (s : Int), .int .i64 (o : Int), .int .i64 a] w (LiPost (tabI M (shN (M : Int) L (s : Int) (o : Int) a)) w) := by
  have HR := Lib.hid hr
  have HG := Lib.hid hG
  have HL := Lib.hid hL
  have Hso := Lib.hid hso
  have hN1 := (gok_parts hG).1
  have hN2 := (gok_parts hG).2.1
  obtain ⟨c, hcc⟩ : ∃ c, c = cntN (M : Int) L (s : Int) (o : Int) := ⟨_, rfl⟩
  have hc0 : ¬ (c ≤ 0) := by omega
  have ha3 : ¬ (a < 1) := by omega
  have ha4 : ¬ (100000 < a) := by omega
  obtain ⟨ad, cp, rfl⟩ := hr.slice
  obtain ⟨i3, hi3, hz0, hz1, hz2⟩ := info_parts Try.info3
  have I := Lib.hid (And.intro hi3 (And.intro hz0 (And.intro hz1 hz2)))
  clear hr hG hL hi3 hz0 hz1 hz2 hso hcn
  go_enter Try.func45, Try.ntmps45
  go_wp2_with fail
  go_at_call 36
  refine (icnt_any (M : Int) lo hi n _ L (s : Int) (o : Int) _ HL.out (HR.out.below (B := w.heap.size) (by go_grown) (by omega)) (by simp; omega)).mono ?_
  rw [← hcc]
  rintro e v1 ⟨rfl, hb1⟩
  have sz1 : w.heap.size + 1 ≤ v1.heap.size := by have hh := hb1.size; simp at hh; omega
  have st1 : Below w.heap.size w v1 := Below.trans (by go_grown) (hb1.mono (by simp))
  have c1_0 : v1.cell? ⟨w.heap.size, 0, none⟩ = some (.int .i64 (M : Int)) := by rw [(bcell hb1).1 _ _ (by simp)]; first | (rw [new_at (by simp)]; rfl) | simp
  have c1_1 : v1.cell? ⟨w.heap.size, 1, none⟩ = some (.slice ad n cp) := by rw [(bcell hb1).1 _ _ (by simp)]; first | (rw [new_at (by simp)]; rfl) | simp
  have B1 : Hid (Below w.heap.size w v1) := st1
  have R1_0 : Hid (Row 3 v1 (lo) (hi) (.slice ad n cp) n (flat L)) := HR.out.below st1 (by omega)
  have d1_0 : w.heap.size < v1.heap.size := by omega
  have e1_0 : w.heap.size ≠ v1.heap.size := by omega
  clear st1 HR hb1
  have q0 : ¬ (M : Int) < 0 := by omega
  clear hcc
  go_wp2_with (at_make; refine wpList_make_full _ rfl _ _ 33 rfl v1.heap.size 3 i3 (.int .i64 0) 1 Try.underlying33 I.out.1 I.out.2.1 I.out.2.2.1 .i64 .i64 _ _ M rfl rfl rfl rfl ?b2 ?b3 ?b4 ?_)
  case b2 => rw [I.out.2.2.2]; omega
  case b3 => unfold maxLen; omega
  case b4 => exact Nat.le_refl _
  intro w1 hown1 hgr1
  have ho1 := own_zeros hown1
  have hO : Hid (OwnI v1 w1 (.slice (some ⟨v1.heap.size, 0, none⟩) M M) M (tabI M fun _ => 0)) := ⟨below_grown hgr1, ho1⟩
  have z0 : w1.cell? ⟨v1.heap.size, s, none⟩ = some (.int .i64 0) := hO.out.at hs (tabI_at _ hs)
  have f0 : w1.frozen? ⟨v1.heap.size, s, none⟩ = false := hO.out.frz s
  have p0 : (0 : Int) ≤ (s : Int) := by omega
  have p1 : (s : Int) < (M : Int) := by omega
  have hO2 : Hid (OwnI v1 (w1.setCell ⟨v1.heap.size, s, none⟩ (.int .i64 a)) (.slice (some ⟨v1.heap.size, 0, none⟩) M M) M (tabI M (at1 (s : Int) a))) := by
    have h := hO.out.set s a
    rw [tabI_set] at h
    exact Lib.hid h
  obtain ⟨w2, hw2⟩ : ∃ x, x = w1.setCell ⟨v1.heap.size, s, none⟩ (.int .i64 a) := ⟨_, rfl⟩
  have k0 : w1.cell? ⟨w.heap.size, 0, none⟩ = some (.int .i64 (M : Int)) := by rw [hO.out.below.cell (p := ⟨w.heap.size, 0, none⟩) (by show w.heap.size < _; omega)]; exact c1_0
  have k1 : w1.cell? ⟨w.heap.size, 1, none⟩ = some (.slice ad n cp) := by rw [hO.out.below.cell (p := ⟨w.heap.size, 1, none⟩) (by show w.heap.size < _; omega)]; exact c1_1
  have hne : v1.heap.size ≠ w.heap.size := by omega
  have hne2 : w.heap.size ≠ v1.heap.size := by omega
  clear hown1 hgr1 ho1 hO
  go_wp2_with fail
  rw [← hw2]
  have hs2 := hO2.out.below.size
  rw [← hw2] at hO2 hs2
  have k0 : w2.cell? ⟨w.heap.size, 0, none⟩ = some (.int .i64 (M : Int)) := by rw [hO2.out.below.cell (p := ⟨w.heap.size, 0, none⟩) (by show w.heap.size < _; omega)]; exact c1_0
  have k1 : w2.cell? ⟨w.heap.size, 1, none⟩ = some (.slice ad n cp) := by rw [hO2.out.below.cell (p := ⟨w.heap.size, 1, none⟩) (by show w.heap.size < _; omega)]; exact c1_1
  have hgs2 := hO2.out.lt.2
  clear z0 f0 hw2
  have HK0 : Hid (v1.cell? ⟨w.heap.size, 0, none⟩ = some (.int .i64 (M : Int))) := c1_0
  have HK1 : Hid (v1.cell? ⟨w.heap.size, 1, none⟩ = some (.slice ad n cp)) := c1_1
  clear c1_0 c1_1
  go_at_call 72
  refine (trails_any (M : Int) (s : Int) lo hi n _ L _ HG.out HL.out (R1_0.out.below hO2.out.below (by omega)) (by omega) (by omega)).mono ?_
  rintro e w4 ⟨P, vt, rfl, hF, hPl, hown, hN, hb4⟩
  have HF := Lib.hid hF
  have HN := Lib.hid hN
  obtain ⟨ta, tc, ht⟩ := own_slice hown
  subst ht
  have HT := Lib.hid hown
  have hs4 := hb4.size
  have HO4 := Lib.hid (hO2.out.grow hb4)
  have HG4 : Hid (w4.grownBy w4 (some v1.heap.size)) := Lib.hid (grown_refl _ _)
  clear hF hN hown hb4 k0 k1 hO2
  go_wp2_with fail
  go_loopw [40] (fun i wr => ∃ k : Nat, k ≤ P.length ∧ i = .int .i64 (k : Int) ∧ Hid (w4.grownBy wr (some v1.heap.size)) ∧ Hid (OwnI v1 wr (.slice (some ⟨v1.heap.size, 0, none⟩) M M) M (tabI M (run (fun x => hopsL (M : Int) L x (o : Int)) (at1 (s : Int) a) ((P.take k).map (fun t => lastN t.key)))))) (fun i _ => P.length - (intOf i).toNat)
  case atStart => exact ⟨0, Nat.zero_le _, rfl, HG4, HO4⟩
  case round =>
    obtain ⟨k, hk, rfl, hB, hR⟩ := hrel
    have hsz := hB.out.size
    by_cases hlt : k < P.length
    · obtain ⟨t, htk⟩ : ∃ t, P[k]? = some t := ⟨P[k], List.getElem?_eq_getElem _⟩
      obtain ⟨hNt, hgt⟩ := HN.out t (List.mem_of_getElem? htk)
      obtain ⟨gt, tcap, hv, hb2, hlt2⟩ := HT.out.form (by omega)
      cases hv
      obtain ⟨pa, pb⟩ := pcs_at P htk
      have hgt2 := (HT.out.lt gt rfl).1
      have cg : ∀ b j, b < w4.heap.size → b ≠ v1.heap.size → wr.cell? ⟨b, j, none⟩ = w4.cell? ⟨b, j, none⟩ := fun b j h1 h2 => World.cell?_of_block (w := w4) (a := ⟨b, j, none⟩) (hB.out.block b h1 (fun e => h2 (by cases e; rfl)))
      have hxn : gt ≠ v1.heap.size := by omega
      have z0 : wr.cell? ⟨gt, k * 2, none⟩ = some (.int .i64 t.c) := by rw [cg _ _ hlt2 hxn, HT.out.cellAt _ (by omega)]; exact pa
      have z1 : wr.cell? ⟨gt, k * 2 + 1, none⟩ = some (.slice (some ⟨t.g, 0, none⟩) t.ns.length t.cap) := by rw [cg _ _ hlt2 hxn, HT.out.cellAt _ (by omega)]; exact pb
      obtain ⟨l, hl⟩ : ∃ l, t.ns.length = l + 1 := ⟨t.ns.length - 1, by have := hNt.1; omega⟩
      obtain ⟨qz, hq⟩ : ∃ q : Int, lastN t.key = q := ⟨_, rfl⟩
      have hz : wr.cell? ⟨t.g, l, none⟩ = some (.int .i64 qz) := by rw [← hq, cg _ _ hNt.2.2.1 (by omega)]; exact hNt.2.2.2.at_ l _ (last_at hl)
      rw [hl] at z1
      have Hq := Lib.hid hq
      have Htk := Lib.hid htk
      have hqb : 0 ≤ qz ∧ qz < (M : Int) := by
        have h := ((HF.out.best t.key (List.mem_map.2 ⟨t, List.mem_of_getElem? htk, rfl⟩)).1.bounds HG.out ⟨by omega, by omega⟩).2.2.2.1
        rw [hq] at h
        exact h
      have hgw : gt < wr.heap.size := by omega
      have hgw2 : t.g < wr.heap.size := by have := hNt.2.2.1; omega
      have hl6 : l ≤ 1100000 := by have := hNt.2.1; omega
      have q2 : (k : Int) < (P.length : Int) := by omega
      have q1 : (0 : Int) ≤ (k : Int) := by omega
      have hwr : w.heap.size < wr.heap.size := by omega
      have m0 : wr.cell? ⟨w.heap.size, 0, none⟩ = some (.int .i64 (M : Int)) := by rw [hR.out.below.cell (p := ⟨w.heap.size, 0, none⟩) (by show w.heap.size < _; omega)]; exact HK0.out
      have m1 : wr.cell? ⟨w.heap.size, 1, none⟩ = some (.slice ad n cp) := by rw [hR.out.below.cell (p := ⟨w.heap.size, 1, none⟩) (by show w.heap.size < _; omega)]; exact HK1.out
      clear hNt hgt hb2 pa pb hq htk hl cg
      go_wp2_with fail
      obtain ⟨wb, hwb⟩ : ∃ wb, wb = wr.alloc (.cells #[.int .i64 t.c, .slice (some ⟨t.g, 0, none⟩) (l + 1) t.cap] 86) := ⟨_, rfl⟩
      have hbb : Below wr.heap.size wr wb := by rw [hwb]; exact (Below.refl _ _).alloc (Nat.le_refl _) _
      have bs : wb.heap.size = wr.heap.size + 1 := by rw [hwb]; simp
      have bz : wb.cell? ⟨t.g, l, none⟩ = some (.int .i64 qz) := by rw [hbb.cell (p := ⟨t.g, l, none⟩) hgw2]; exact hz
      rw [← hwb]
      have hgw3 : t.g < wb.heap.size := by omega
      clear hwb z0 z1 hz
      go_at_call 73
      refine (end_any t.c qz t.g l t.cap _ hl6 hgw3 bz).mono ?_
      rintro e w6 ⟨rfl, hb6⟩
      have hb06 : Below wr.heap.size wr w6 := hbb.trans (hb6.mono (by omega))
      have m0 : w6.cell? ⟨w.heap.size, 0, none⟩ = some (.int .i64 (M : Int)) := by rw [hb06.cell (p := ⟨w.heap.size, 0, none⟩) hwr]; exact m0
      have m1 : w6.cell? ⟨w.heap.size, 1, none⟩ = some (.slice ad n cp) := by rw [hb06.cell (p := ⟨w.heap.size, 1, none⟩) hwr]; exact m1
      have HO6 := Lib.hid (hR.out.grow hb06)
      have HG6 : Hid (w4.grownBy w6 (some v1.heap.size)) := Lib.hid ⟨hb06.os.trans hB.out.os, hb06.tape.trans hB.out.tape, hb06.output.trans hB.out.output, Nat.le_trans hB.out.size hb06.size, fun j hj hn => (hb06.block j (by omega)).trans (hB.out.block j hj hn)⟩
      have hs6 := hb06.size
      clear hb6 hbb bz hb06 bs hB hR
      go_wp2_with fail
      go_at_call 42
      refine (ihop_any (M : Int) lo hi n _ L qz (o : Int) _ HL.out (R1_0.out.below HO6.out.below (by omega)) (by have := HO6.out.below.size; omega)).mono ?_
      rintro e w7 ⟨hv, rfl, hrow, hb7⟩
      obtain ⟨Zh, hZh⟩ : ∃ Z, Z = hopsL (M : Int) L qz (o : Int) := ⟨_, rfl⟩
      rw [← hZh] at hrow
      have HZh := Lib.hid hZh
      obtain ⟨m, hm⟩ : ∃ m, m = Zh.length := ⟨_, rfl⟩
      have hm10 : m ≤ 10 := by rw [hm, hZh]; exact hopsL_ten _ _ _ _
      rw [← hm] at hrow
      have Hm := Lib.hid hm
      have hmem : Hid (∀ z ∈ Zh, (0 ≤ z ∧ z < (M : Int)) ∧ z ≠ qz) := by
        refine Lib.hid (fun z hz => ?_)
        rw [HZh.out] at hz
        have ht := hopsL_mem hz
        have hf := ht.facts HG.out
        exact ⟨hf.2.1, fun e => by have := hf.2.2.1; rw [e] at this; omega⟩
      have hpw : Hid (Zh.Pairwise (fun a b => a ≠ b)) := by rw [HZh.out]; exact Lib.hid (hopsL_ne _ _ _ _)
      obtain ⟨F, hFn⟩ : ∃ F, F = run (fun x => hopsL (M : Int) L x (o : Int)) (at1 (s : Int) a) ((P.take k).map (fun t => lastN t.key)) := ⟨_, rfl⟩
      have hFb : Hid (∀ y, 0 ≤ F y ∧ F y ≤ 102400000) := by
        refine Lib.hid (fun y => ?_)
        have v0 : ∀ y, 0 ≤ at1 (s : Int) a y := fun y => by unfold at1; split <;> omega
        have v1 : ∀ y, at1 (s : Int) a y ≤ 100000 := fun y => by unfold at1; split <;> omega
        have h1 := run_nn (H := fun x => hopsL (M : Int) L x (o : Int)) v0 ((P.take k).map (fun t => lastN t.key)) y
        have h2 := run_le (H := fun x => hopsL (M : Int) L x (o : Int)) (fun x => hopsL_ne _ _ _ _) v0 v1 ((P.take k).map (fun t => lastN t.key)) y
        rw [← hFn] at h1 h2
        have h3 : ((P.take k).map (fun t => lastN t.key)).length ≤ 10 := by rw [List.length_map, List.length_take]; omega
        have h4 : (2 : Int) ^ ((P.take k).map (fun t => lastN t.key)).length ≤ 1024 := by
          generalize ((P.take k).map (fun t => lastN t.key)).length = q at h3
          have : q = 0 ∨ q = 1 ∨ q = 2 ∨ q = 3 ∨ q = 4 ∨ q = 5 ∨ q = 6 ∨ q = 7 ∨ q = 8 ∨ q = 9 ∨ q = 10 := by omega
          rcases this with rfl | rfl | rfl | rfl | rfl | rfl | rfl | rfl | rfl | rfl | rfl <;> decide
        exact ⟨h1, by omega⟩
      rw [← hFn] at HO6
      have HFn := Lib.hid hFn
      have Hrow := Lib.hid hrow
      obtain ⟨hga, hgc, hgv⟩ := hrow.slice
      subst hgv
      have HO7 : Hid (OwnI v1 w7 (.slice (some ⟨v1.heap.size, 0, none⟩) M M) M (tabI M (fun y => F y + gn (F qz) m 0 (Zh.take 0) y))) := by
        have e : (fun y => F y + gn (F qz) m 0 (Zh.take 0) y) = F := by funext y; show F y + 0 = F y; omega
        rw [e]
        exact Lib.hid (HO6.out.grow hb7)
      have HG7 : Hid (w4.grownBy w7 (some v1.heap.size)) := Lib.hid ⟨hb7.os.trans HG6.out.os, hb7.tape.trans HG6.out.tape, hb7.output.trans HG6.out.output, Nat.le_trans HG6.out.size hb7.size, fun j hj hn => (hb7.block j (by omega)).trans (HG6.out.block j hj hn)⟩
      have hs7 := hb7.size
      have HI : Hid (w7.grownBy w7 (some v1.heap.size)) := Lib.hid (grown_refl _ _)
      have hg6 := HO6.out.lt.2
      obtain ⟨x, hx⟩ : ∃ x : Nat, qz = (x : Int) := ⟨qz.toNat, by omega⟩
      subst hx
      clear hZh hm hrow hFn hb7 HO6 HG6 m0 m1
      go_wp2_with fail
      go_loopw [52] (fun i wi => ∃ j : Nat, j ≤ m ∧ i = .int .i64 (j : Int) ∧ Hid (w7.grownBy wi (some v1.heap.size)) ∧ Hid (OwnI v1 wi (.slice (some ⟨v1.heap.size, 0, none⟩) M M) M (tabI M (fun y => F y + gn (F (x : Int)) m 0 (Zh.take j) y)))) (fun i _ => m - (intOf i).toNat)
      case atStart => exact ⟨0, Nat.zero_le _, rfl, HI, HO7⟩
      case round =>
        obtain ⟨j, hj, rfl, hGi, hOi⟩ := hrel
        have hszi := hGi.out.size
        by_cases hjm : j < m
        · obtain ⟨z, hzj⟩ : ∃ z, Zh[j]? = some z := ⟨Zh[j]'(by have := Hm.out; omega), List.getElem?_eq_getElem _⟩
          obtain ⟨⟨hz0, hz1⟩, hzx⟩ := hmem.out z (List.mem_of_getElem? hzj)
          obtain ⟨gh, hv2, hgv, hgl, hgh, hgc2⟩ := row_cells (by omega) Hrow.out
          cases hgv
          have y0 : wr.cell? ⟨gh, j, none⟩ = some (.int .i64 z) := (World.cell?_of_block (a := ⟨gh, j, none⟩) (hGi.out.block gh hgh (fun e => by cases e; omega))).trans (hgc2 j z hzj)
          obtain ⟨y, hy⟩ : ∃ y : Nat, z = (y : Int) := ⟨z.toNat, by omega⟩
          subst hy
          have hxl : x < M := by omega
          have hyl : y < M := by omega
          have hbx := hFb.out (x : Int)
          have hby := hFb.out (y : Int)
          have hpl := prt_le hbx.1 (m := m) (by omega) j
          have hpn := prt_nn hbx.1 m j
          have hgl2 := gn_le hbx.1 (m := m) (by omega) (y : Int) 0 (l := Zh.take j) (hpw.out.sublist (List.take_sublist _ _))
          have hgn2 := gn_nn hbx.1 m (y : Int) 0 (Zh.take j)
          have hx0 : gn (F (x : Int)) m 0 (Zh.take j) (x : Int) = 0 := gn_not _ _ _ _ _ (fun e => (hmem.out _ (List.mem_of_mem_take e)).2 rfl)
          have cx : wr.cell? ⟨v1.heap.size, x, none⟩ = some (.int .i64 (F (x : Int))) := by
            have h := hOi.out.at hxl (tabI_at _ hxl)
            rw [hx0, Int.add_zero] at h
            exact h
          have cy := hOi.out.at hyl (tabI_at _ hyl)
          have fy := hOi.out.frz y
          obtain ⟨p, hp⟩ : ∃ p, p = prt (F (x : Int)) m j := ⟨_, rfl⟩
          obtain ⟨u, hu⟩ : ∃ u, u = F (y : Int) + gn (F (x : Int)) m 0 (Zh.take j) (y : Int) := ⟨_, rfl⟩
          rw [← hu] at cy
          have hwr2 : IntKind.i64.wrap (u + p) = u + p := by rw [IntKind.wrap_i64]; omega
          have HF2 : Hid (∀ w', Below wr.heap.size wr w' → OwnI v1 (w'.setCell ⟨v1.heap.size, y, none⟩ (.int .i64 (u + p))) (.slice (some ⟨v1.heap.size, 0, none⟩) M M) M (tabI M (fun y => F y + gn (F (x : Int)) m 0 (Zh.take (j + 1)) y))) := by
            refine Lib.hid (fun w' hw' => ?_)
            have h := (hOi.out.grow hw').set y (u + p)
            rw [tabI_set] at h
            have e : (fun r => if r = (y : Int) then u + p else F r + gn (F (x : Int)) m 0 (Zh.take j) r) = fun r => F r + gn (F (x : Int)) m 0 (Zh.take (j + 1)) r := by
              funext r
              rw [gn_take _ _ r Zh 0 j (y : Int) hzj, Nat.zero_add]
              by_cases hr : r = (y : Int)
              · rw [if_pos hr, if_pos hr, hr, hu, hp]; omega
              · rw [if_neg hr, if_neg hr]; omega
            rw [e] at h
            exact h
          have HG2 : Hid (∀ w', Below wr.heap.size wr w' → w7.grownBy (w'.setCell ⟨v1.heap.size, y, none⟩ (.int .i64 (u + p))) (some v1.heap.size)) := by
            refine Lib.hid (fun w' hw' => ?_)
            have h1 : w7.grownBy w' (some v1.heap.size) := ⟨hw'.os.trans hGi.out.os, hw'.tape.trans hGi.out.tape, hw'.output.trans hGi.out.output, Nat.le_trans hGi.out.size hw'.size, fun b hb hn => (hw'.block b (by have := hGi.out.size; omega)).trans (hGi.out.block b hb hn)⟩
            exact grown_set h1 y _
          have Hp := Lib.hid hp
          have hb1 := hbx.1
          have hb2 : F (x : Int) ≤ 1000000000 := by omega
          obtain ⟨fx, hfx⟩ : ∃ q, q = F (x : Int) := ⟨_, rfl⟩
          have Hfx := Lib.hid hfx
          rw [← hfx] at cx hb1 hb2
          have i0 : (0 : Int) ≤ (j : Int) := by omega
          have i1 : (j : Int) < (m : Int) := by omega
          have i2 : (0 : Int) ≤ (x : Int) := by omega
          have i3 : (x : Int) < (M : Int) := by omega
          have i4 : (0 : Int) ≤ (y : Int) := by omega
          have i5 : (y : Int) < (M : Int) := by omega
          have hm0 : 0 < m := by omega
          have Hjm := Lib.hid hjm
          clear hzj hz0 hz1 hzx hgc2 hbx hby hpl hpn hgl2 hgn2 hx0 hp hu hGi hOi hfx
          go_wp2_with fail
          go_region_with (go_at_call 83; refine (portion_any fx m j _ hb1 hb2 hm0).mono ?_; rw [Hfx.out, ← Hp.out]; rintro e w9 ⟨rfl, rfl⟩)
          all_goals (focus (
            have HOe := Lib.hid ((HF2.out wr (Below.refl _ _)).drew)
            have hge := HG2.out wr (Below.refl _ _)
            have HGe : Hid (w7.grownBy (wr.setCell ⟨v1.heap.size, y, none⟩ (.int .i64 (u + p))).drew (some v1.heap.size)) := Lib.hid ⟨hge.os, hge.tape, hge.output, hge.size, hge.block⟩
            clear hge cx cy fy
            go_wp2_with fail
            go_roundw
            (case rel => exact ⟨j + 1, by have := Hjm.out; omega, by go_num, HGe, HOe⟩)
            (case measure => have := Hjm.out; simp [intOf]; omega)))
        · obtain rfl : m = j := by omega
          have hge : ¬ ((m : Int) < (m : Int)) := by omega
          have HGo : Hid (w4.grownBy wr (some v1.heap.size)) := Lib.hid ⟨hGi.out.os.trans HG7.out.os, hGi.out.tape.trans HG7.out.tape, hGi.out.output.trans HG7.out.output, Nat.le_trans HG7.out.size hszi, fun b hb hn => (hGi.out.block b (by have := HG7.out.size; omega) hn).trans (HG7.out.block b hb hn)⟩
          have HOo : Hid (OwnI v1 wr (.slice (some ⟨v1.heap.size, 0, none⟩) M M) M (tabI M (run (fun x => hopsL (M : Int) L x (o : Int)) (at1 (s : Int) a) ((P.take (k + 1)).map (fun t => lastN t.key))))) := by
            have e : (fun y => F y + gn (F (x : Int)) m 0 (Zh.take m) y) = run (fun x => hopsL (M : Int) L x (o : Int)) (at1 (s : Int) a) ((P.take (k + 1)).map (fun t => lastN t.key)) := by
              rw [List.take_add_one, Htk.out, List.map_append]
              show _ = run _ _ (_ ++ [lastN t.key])
              rw [Hq.out, run_snoc, ← HFn.out]
              funext y
              show _ = F y + gn (F (x : Int)) (hopsL (M : Int) L (x : Int) (o : Int)).length 0 (hopsL (M : Int) L (x : Int) (o : Int)) y
              rw [← HZh.out, ← Hm.out, List.take_of_length_le (by have := Hm.out; omega)]
            rw [← e]
            exact hOi
          clear hGi hOi
          go_wp2_with fail
          go_roundw
          case rel => exact ⟨k + 1, by omega, by go_num, HGo, HOo⟩
          case measure => simp [intOf]; omega
    · obtain rfl : P.length = k := by omega
      have hge : ¬ ((P.length : Int) < (P.length : Int)) := by omega
      have e : tabI M (run (fun x => hopsL (M : Int) L x (o : Int)) (at1 (s : Int) a) ((P.take P.length).map (fun t => lastN t.key))) = tabI M (shN (M : Int) L (s : Int) (o : Int) a) := by
        rw [List.take_length]
        congr 1
        funext y
        have h := shN_eq (a := a) HG.out ⟨by omega, by omega⟩ Hso.out HF.out y
        rw [List.map_map] at h
        exact h
      have HOe := hR.out
      rw [e] at HOe
      have HRf := Lib.hid HOe
      clear HOe hB hR e
      go_wp2_with fail
      refine bodyPost_ret (v := .slice (some ⟨v1.heap.size, 0, none⟩) M M) (by simp [results, Try.results45, go_sem]) rfl ⟨_, rfl, ?_⟩
      rw [tabI_len]
      exact ⟨(HRf.out.toRow (by omega)).wider (by omega), B1.out.trans (HRf.out.below.mono (by omega))⟩

/-- What Shares answers. -/
noncomputable def shL (N : Int) (L : List Ed) (x y a : Int) : List Int := if (gok N L = true ∧ ndB N x = true ∧ ndB N y = true ∧ dsT N L x y ≠ Far) ∧ 1 ≤ a ∧ a ≤ 100000 then tabI N.toNat (shN N L x y a) else []
theorem cnt_pos {N : Int} {L : List Ed} {x y c : Int} (h : scnP N L x y c) : 0 < c ↔ (gok N L = true ∧ ndB N x = true ∧ ndB N y = true ∧ dsT N L x y ≠ Far) := by
  unfold scnP at h
  split at h
  · rename_i hv
    obtain ⟨S, W, hS, rfl⟩ := h
    have hx : 0 ≤ x ∧ x < N := by
      have := hv.2.1
      unfold ndB at this
      rw [inB_iff] at this
      omega
    constructor
    · intro hp
      exact ⟨hv.1, hv.2.1, hv.2.2, fun e => by have := (hS.far x hx e).2; omega⟩
    · intro h
      exact (hS.step x hx h.2.2.2).2.1
  · rename_i hv
    exact ⟨fun hp => by omega, fun h' => absurd ⟨h'.1, h'.2.1, h'.2.2.1⟩ hv⟩

set_option maxRecDepth 100000 in
set_option maxHeartbeats 2400000 in
theorem ish_no0 (N : Int) (lo hi n : Nat) (v : Value) (L : List Ed) (x y a : Int) (w : World) (hL : L.length = n) (hr : Row 3 w lo hi v n (flat L)) (hh : hi ≤ w.heap.size) (hn : cntN N L x y ≤ 0) :
    Calls Try.prog 45 #[.agg #[.int .i64 N, v], .int .i64 x, .int .i64 y, .int .i64 a] w (LiPost [] w) := by
  have HR := Lib.hid hr
  obtain ⟨c, hcc⟩ : ∃ c, c = cntN N L x y := ⟨_, rfl⟩
  rw [← hcc] at hn
  have c0 : c ≤ 0 := by omega
  obtain ⟨ad, cp, rfl⟩ := hr.slice
  clear hr hn
  go_enter Try.func45, Try.ntmps45
  go_wp2_with fail
  go_at_call 36
  refine (icnt_any N lo hi n _ L x y _ hL (HR.out.below (B := w.heap.size) (by go_grown) (by omega)) (by simp; omega)).mono ?_
  rw [← hcc]
  rintro e v1 ⟨rfl, hb1⟩
  have sz1 : w.heap.size + 1 ≤ v1.heap.size := by have hh := hb1.size; simp at hh; omega
  have st1 : Below w.heap.size w v1 := Below.trans (by go_grown) (hb1.mono (by simp))
  have c1_0 : v1.cell? ⟨w.heap.size, 0, none⟩ = some (.int .i64 N) := by rw [(bcell hb1).1 _ _ (by simp)]; first | (rw [new_at (by simp)]; rfl) | simp
  have c1_1 : v1.cell? ⟨w.heap.size, 1, none⟩ = some (.slice ad n cp) := by rw [(bcell hb1).1 _ _ (by simp)]; first | (rw [new_at (by simp)]; rfl) | simp
  have B1 : Hid (Below w.heap.size w v1) := st1
  have R1_0 : Hid (Row 3 v1 (lo) (hi) (.slice ad n cp) n (flat L)) := HR.out.below st1 (by omega)
  have d1_0 : w.heap.size < v1.heap.size := by omega
  have e1_0 : w.heap.size ≠ v1.heap.size := by omega
  clear st1 HR hb1
  clear hcc
  go_wp2_with fail
  go_ret
  exact ⟨_, rfl, Row.empty 1 _ _ _ _ _, B1.out⟩

set_option maxRecDepth 100000 in
set_option maxHeartbeats 2400000 in
theorem ish_no1 (N : Int) (lo hi n : Nat) (v : Value) (L : List Ed) (x y a : Int) (w : World) (hL : L.length = n) (hr : Row 3 w lo hi v n (flat L)) (hh : hi ≤ w.heap.size) (hn : 0 < cntN N L x y ∧ a < 1) :
    Calls Try.prog 45 #[.agg #[.int .i64 N, v], .int .i64 x, .int .i64 y, .int .i64 a] w (LiPost [] w) := by
  have HR := Lib.hid hr
  obtain ⟨c, hcc⟩ : ∃ c, c = cntN N L x y := ⟨_, rfl⟩
  rw [← hcc] at hn
  have c0 : ¬ (c ≤ 0) := by omega
  have c1 : a < 1 := hn.2
  obtain ⟨ad, cp, rfl⟩ := hr.slice
  clear hr hn
  go_enter Try.func45, Try.ntmps45
  go_wp2_with fail
  go_at_call 36
  refine (icnt_any N lo hi n _ L x y _ hL (HR.out.below (B := w.heap.size) (by go_grown) (by omega)) (by simp; omega)).mono ?_
  rw [← hcc]
  rintro e v1 ⟨rfl, hb1⟩
  have sz1 : w.heap.size + 1 ≤ v1.heap.size := by have hh := hb1.size; simp at hh; omega
  have st1 : Below w.heap.size w v1 := Below.trans (by go_grown) (hb1.mono (by simp))
  have c1_0 : v1.cell? ⟨w.heap.size, 0, none⟩ = some (.int .i64 N) := by rw [(bcell hb1).1 _ _ (by simp)]; first | (rw [new_at (by simp)]; rfl) | simp
  have c1_1 : v1.cell? ⟨w.heap.size, 1, none⟩ = some (.slice ad n cp) := by rw [(bcell hb1).1 _ _ (by simp)]; first | (rw [new_at (by simp)]; rfl) | simp
  have B1 : Hid (Below w.heap.size w v1) := st1
  have R1_0 : Hid (Row 3 v1 (lo) (hi) (.slice ad n cp) n (flat L)) := HR.out.below st1 (by omega)
  have d1_0 : w.heap.size < v1.heap.size := by omega
  have e1_0 : w.heap.size ≠ v1.heap.size := by omega
  clear st1 HR hb1
  clear hcc
  go_wp2_with fail
  go_ret
  exact ⟨_, rfl, Row.empty 1 _ _ _ _ _, B1.out⟩

set_option maxRecDepth 100000 in
set_option maxHeartbeats 2400000 in
theorem ish_no2 (N : Int) (lo hi n : Nat) (v : Value) (L : List Ed) (x y a : Int) (w : World) (hL : L.length = n) (hr : Row 3 w lo hi v n (flat L)) (hh : hi ≤ w.heap.size) (hn : 0 < cntN N L x y ∧ 1 ≤ a ∧ 100000 < a) :
    Calls Try.prog 45 #[.agg #[.int .i64 N, v], .int .i64 x, .int .i64 y, .int .i64 a] w (LiPost [] w) := by
  have HR := Lib.hid hr
  obtain ⟨c, hcc⟩ : ∃ c, c = cntN N L x y := ⟨_, rfl⟩
  rw [← hcc] at hn
  have c0 : ¬ (c ≤ 0) := by omega
  have c1 : ¬ (a < 1) := by omega
  have c2 : 100000 < a := hn.2.2
  obtain ⟨ad, cp, rfl⟩ := hr.slice
  clear hr hn
  go_enter Try.func45, Try.ntmps45
  go_wp2_with fail
  go_at_call 36
  refine (icnt_any N lo hi n _ L x y _ hL (HR.out.below (B := w.heap.size) (by go_grown) (by omega)) (by simp; omega)).mono ?_
  rw [← hcc]
  rintro e v1 ⟨rfl, hb1⟩
  have sz1 : w.heap.size + 1 ≤ v1.heap.size := by have hh := hb1.size; simp at hh; omega
  have st1 : Below w.heap.size w v1 := Below.trans (by go_grown) (hb1.mono (by simp))
  have c1_0 : v1.cell? ⟨w.heap.size, 0, none⟩ = some (.int .i64 N) := by rw [(bcell hb1).1 _ _ (by simp)]; first | (rw [new_at (by simp)]; rfl) | simp
  have c1_1 : v1.cell? ⟨w.heap.size, 1, none⟩ = some (.slice ad n cp) := by rw [(bcell hb1).1 _ _ (by simp)]; first | (rw [new_at (by simp)]; rfl) | simp
  have B1 : Hid (Below w.heap.size w v1) := st1
  have R1_0 : Hid (Row 3 v1 (lo) (hi) (.slice ad n cp) n (flat L)) := HR.out.below st1 (by omega)
  have d1_0 : w.heap.size < v1.heap.size := by omega
  have e1_0 : w.heap.size ≠ v1.heap.size := by omega
  clear st1 HR hb1
  clear hcc
  go_wp2_with fail
  go_ret
  exact ⟨_, rfl, Row.empty 1 _ _ _ _ _, B1.out⟩

theorem ish_any (N : Int) (lo hi n : Nat) (v : Value) (L : List Ed) (x y a : Int) (w : World) (hL : L.length = n) (hr : Row 3 w lo hi v n (flat L)) (hh : hi ≤ w.heap.size) :
    Calls Try.prog 45 #[.agg #[.int .i64 N, v], .int .i64 x, .int .i64 y, .int .i64 a] w (LiPost (shL N L x y a) w) := by
  obtain ⟨_, _, ⟨c, _, hc⟩, _⟩ := calls_ends (scount_any N lo hi n v L x y w hL hr hh)
  have he := cntN_eq hc
  have hp := cnt_pos hc
  rw [← he] at hp
  unfold shL
  by_cases h0 : 0 < cntN N L x y
  · by_cases h1 : 1 ≤ a
    · by_cases h2 : a ≤ 100000
      · rw [if_pos ⟨hp.1 h0, h1, h2⟩]
        obtain ⟨hG, hx, hy, hd⟩ := hp.1 h0
        have hN := gok_parts hG
        obtain ⟨M, rfl⟩ : ∃ M : Nat, N = (M : Int) := ⟨N.toNat, by omega⟩
        unfold ndB at hx hy
        rw [inB_iff] at hx hy
        obtain ⟨s, rfl⟩ : ∃ s : Nat, x = (s : Int) := ⟨x.toNat, by omega⟩
        obtain ⟨o, rfl⟩ : ∃ o : Nat, y = (o : Int) := ⟨y.toNat, by omega⟩
        exact ish_yes M lo hi n v L s o a w hL hr hh hG (by omega) h0 hd h1 h2
      · rw [if_neg (fun h => h2 h.2.2)]
        exact ish_no2 N lo hi n v L x y a w hL hr hh ⟨h0, h1, by omega⟩
    · rw [if_neg (fun h => h1 h.2.1)]
      exact ish_no1 N lo hi n v L x y a w hL hr hh ⟨h0, by omega⟩
  · rw [if_neg (fun h => h0 (hp.2 h.1))]
    exact ish_no0 N lo hi n v L x y a w hL hr hh (by omega)

set_option maxRecDepth 100000 in
set_option maxHeartbeats 4000000 in
theorem ssh_yes (M lo hi n : Nat) (v : Value) (L : List Ed) (s o : Nat) (a : Int) (w : World) (hL : L.length = n) (hr : Row 3 w lo hi v n (flat L)) (hh : hi ≤ w.heap.size) (hG : gok (M : Int) L = true) (hs : s < M) (ho : o < M) (hso : dsT (M : Int) L (s : Int) (o : Int) ≠ Far) (ha1 : 1 ≤ a) (ha2 : a ≤ 100000) :
    Calls Try.prog 44 #[.agg #[.int .i64 (M : Int), v], .int .i64 (s : Int), .int .i64 (o : Int), .int .i64 a] w (LiPost (tabI M (shN (M : Int) L (s : Int) (o : Int) a)) w) := by
  obtain ⟨_, _, ⟨P0, _, _, hF0, _⟩⟩ := calls_ends (trails_any (M : Int) (s : Int) lo hi n v L w hG hL hr hh ⟨by omega, by omega⟩)
  have HF := Lib.hid hF0
  have HR := Lib.hid hr
  have HG := Lib.hid hG
  have HL := Lib.hid hL
  have Hso := Lib.hid hso
  have hN1 := (gok_parts hG).1
  have hN2 := (gok_parts hG).2.1
  have hns : ndB (M : Int) (s : Int) = true := by unfold ndB; rw [inB_iff]; omega
  have hno : ndB (M : Int) (o : Int) = true := by unfold ndB; rw [inB_iff]; omega
  have hia : inB a 1 100000 = true := by rw [inB_iff]; omega
  obtain ⟨ad, cp, rfl⟩ := hr.slice
  obtain ⟨i3, hi3, hz0, hz1, hz2⟩ := info_parts Try.info3
  have I := Lib.hid (And.intro hi3 (And.intro hz0 (And.intro hz1 hz2)))
  obtain ⟨i4, hj3, hj0, hj1, hj2⟩ := info_parts Try.info4
  have J := Lib.hid (And.intro hj3 (And.intro hj0 (And.intro hj1 hj2)))
  clear hr hG hL hi3 hz0 hz1 hz2 hj3 hj0 hj1 hj2 hso hF0
  go_enter Try.func44, Try.ntmps44
  go_wp2_with fail
  go_at_call 59
  refine (in_any a 1 100000 _).mono ?_
  rw [hia]
  rintro e w' ⟨rfl, rfl⟩
  go_wp2_with fail
  go_at_call 47
  refine (sgok_any (M : Int) lo hi n _ L _ HL.out (HR.out.below (B := w.heap.size) (by go_grown) (by omega)) (by simp; omega)).mono ?_
  rw [HG.out]
  rintro e v1 ⟨rfl, hb1⟩
  have sz1 : w.heap.size + 1 ≤ v1.heap.size := by have hh := hb1.size; simp at hh; omega
  have st1 : Below w.heap.size w v1 := Below.trans (by go_grown) (hb1.mono (by simp))
  have c1_0 : v1.cell? ⟨w.heap.size, 0, none⟩ = some (.int .i64 (M : Int)) := by rw [(bcell hb1).1 _ _ (by simp)]; first | (rw [new_at (by simp)]; rfl) | simp
  have c1_1 : v1.cell? ⟨w.heap.size, 1, none⟩ = some (.slice ad n cp) := by rw [(bcell hb1).1 _ _ (by simp)]; first | (rw [new_at (by simp)]; rfl) | simp
  have B1 : Hid (Below w.heap.size w v1) := st1
  have R1_0 : Hid (Row 3 v1 (lo) (hi) (.slice ad n cp) n (flat L)) := HR.out.below st1 (by omega)
  have d1_0 : w.heap.size < v1.heap.size := by omega
  have e1_0 : w.heap.size ≠ v1.heap.size := by omega
  clear st1 HR hb1
  go_wp2_with fail
  go_at_call 48
  refine (node_any (M : Int) _ _ _ (s : Int) _ hN1 hN2).mono ?_
  rw [hns]
  rintro e v2 ⟨rfl, hb2⟩
  have sz2 : v1.heap.size ≤ v2.heap.size := hb2.size
  have st2 : Below v1.heap.size v1 v2 := hb2
  have c2_0 : v2.cell? ⟨w.heap.size, 0, none⟩ = some (.int .i64 (M : Int)) := by rw [(bcell st2).1 _ _ (by omega)]; exact c1_0
  have c2_1 : v2.cell? ⟨w.heap.size, 1, none⟩ = some (.slice ad n cp) := by rw [(bcell st2).1 _ _ (by omega)]; exact c1_1
  have B2 : Hid (Below w.heap.size w v2) := B1.out.trans (st2.mono (by omega))
  have R2_0 : Hid (Row 3 v2 (lo) (hi) (.slice ad n cp) n (flat L)) := R1_0.out.below st2 (by omega)
  have d2_0 : w.heap.size < v2.heap.size := by omega
  have e2_0 : w.heap.size ≠ v2.heap.size := by omega
  clear d1_0 e1_0 c1_0 c1_1 B1 st2 R1_0 hb2
  go_wp2_with fail
  go_at_call 48
  refine (node_any (M : Int) _ _ _ (o : Int) _ hN1 hN2).mono ?_
  rw [hno]
  rintro e v3 ⟨rfl, hb3⟩
  have sz3 : v2.heap.size ≤ v3.heap.size := hb3.size
  have st3 : Below v2.heap.size v2 v3 := hb3
  have c3_0 : v3.cell? ⟨w.heap.size, 0, none⟩ = some (.int .i64 (M : Int)) := by rw [(bcell st3).1 _ _ (by omega)]; exact c2_0
  have c3_1 : v3.cell? ⟨w.heap.size, 1, none⟩ = some (.slice ad n cp) := by rw [(bcell st3).1 _ _ (by omega)]; exact c2_1
  have B3 : Hid (Below w.heap.size w v3) := B2.out.trans (st3.mono (by omega))
  have R3_0 : Hid (Row 3 v3 (lo) (hi) (.slice ad n cp) n (flat L)) := R2_0.out.below st3 (by omega)
  have d3_0 : w.heap.size < v3.heap.size := by omega
  have e3_0 : w.heap.size ≠ v3.heap.size := by omega
  clear d2_0 e2_0 c2_0 c2_1 B2 st3 R2_0 hb3
  clear hns hno hia
  go_upto_region 3 with fail
  go_cut [47] (fun t47 wx => t47 = .bool false ∧ Hid (Below v3.heap.size v3 wx))
  case first =>
    by_cases hse : s = o
    · subst hse
      have hb0 : Hid (Below v3.heap.size v3 v3) := Below.refl _ _
      go_wp2_with fail
      go_meet
      exact ⟨rfl, hb0⟩
    · have e1 : ((s : Int) == (o : Int)) = false := by simp; omega
      have e2 : ¬ ((s : Int) = (o : Int)) := by omega
      have e3 : ((s : Int) != (o : Int)) = true := by simp; omega
      go_wp2_with fail
      go_at_call 49
      refine (shop_any (M : Int) lo hi n _ L (s : Int) (o : Int) _ HL.out R3_0.out (by omega)).mono ?_
      rintro e w5 ⟨hv, rfl, hrow, hb5⟩
      obtain ⟨y, hy⟩ := tgP.exists HG.out (o := (o : Int)) (x := (s : Int)) ⟨by omega, by omega⟩ ⟨by omega, by omega⟩ e2 Hso.out
      have hmem : y ∈ hopsL (M : Int) L (s : Int) (o : Int) := by
        unfold hopsL
        rw [if_pos ⟨HG.out, by unfold ndB; rw [inB_iff]; omega, by unfold ndB; rw [inB_iff]; omega⟩, mem_setL]
        have hf := (hy.facts HG.out).2.1
        exact ⟨by omega, decide_eq_true hy⟩
      obtain ⟨m, hm⟩ : ∃ m, m = (hopsL (M : Int) L (s : Int) (o : Int)).length := ⟨_, rfl⟩
      have hm0 : 0 < m := by rw [hm]; exact List.length_pos_of_mem hmem
      rw [← hm] at hrow
      obtain ⟨ha, hc, rfl⟩ := hrow.slice
      have e4 : ((m : Int) == 0) = false := by simp; omega
      have e5 : ¬ ((m : Int) = 0) := by omega
      have HB5 : Hid (Below v3.heap.size v3 w5) := hb5
      clear hm hmem hy hrow hb5
      go_wp2_with fail
      go_meet
      exact ⟨rfl, HB5⟩
  case rest =>
    obtain ⟨rfl, HW⟩ := hcut
    obtain ⟨wb, rfl⟩ : ∃ x, x = wc := ⟨_, rfl⟩
    have hsb := HW.out.size
    have K0 : Hid (wb.cell? ⟨w.heap.size, 0, none⟩ = some (.int .i64 (M : Int))) := by show _ = _; rw [HW.out.cell (p := ⟨w.heap.size, 0, none⟩) (by show w.heap.size < _; omega)]; exact c3_0
    have K1 : Hid (wb.cell? ⟨w.heap.size, 1, none⟩ = some (.slice ad n cp)) := by show _ = _; rw [HW.out.cell (p := ⟨w.heap.size, 1, none⟩) (by show w.heap.size < _; omega)]; exact c3_1
    have HB : Hid (Below w.heap.size w wb) := B3.out.trans (HW.out.mono (by omega))
    have HRb : Hid (Row 3 wb lo hi (.slice ad n cp) n (flat L)) := R3_0.out.below HW.out (by omega)
    have hwb : w.heap.size < wb.heap.size := by omega
    have hhb : hi ≤ wb.heap.size := by omega
    have q0 : ¬ (M : Int) < 0 := by omega
    have k0 := K0.out
    clear HW c3_0 c3_1 B3 R3_0 d3_0 e3_0
    go_wp2_with (at_make; refine wpList_make_full _ rfl _ _ 33 rfl wb.heap.size 3 i3 (.int .i64 0) 1 Try.underlying33 I.out.1 I.out.2.1 I.out.2.2.1 .i64 .i64 _ _ M rfl rfl rfl rfl ?b2 ?b3 ?b4 ?_)
    case b2 => rw [I.out.2.2.2]; omega
    case b3 => unfold maxLen; omega
    intro w1 hown1 hgr1
    have hO : Hid (OwnI wb w1 (.slice (some ⟨wb.heap.size, 0, none⟩) M M) M (tabI M fun _ => 0)) := ⟨below_grown hgr1, own_zeros hown1⟩
    have z0 : w1.cell? ⟨wb.heap.size, s, none⟩ = some (.int .i64 0) := hO.out.at hs (tabI_at _ hs)
    have f0 : w1.frozen? ⟨wb.heap.size, s, none⟩ = false := hO.out.frz s
    have p0 : (0 : Int) ≤ (s : Int) := by omega
    have p1 : (s : Int) < (M : Int) := by omega
    have hO2 : Hid (OwnI wb (w1.setCell ⟨wb.heap.size, s, none⟩ (.int .i64 a)) (.slice (some ⟨wb.heap.size, 0, none⟩) M M) M (tabI M (at1 (s : Int) a))) := by
      have h := hO.out.set s a
      rw [tabI_set] at h
      exact Lib.hid h
    obtain ⟨w2, hw2⟩ : ∃ x, x = w1.setCell ⟨wb.heap.size, s, none⟩ (.int .i64 a) := ⟨_, rfl⟩
    have k1 : w1.cell? ⟨w.heap.size, 0, none⟩ = some (.int .i64 (M : Int)) := by rw [hO.out.below.cell (p := ⟨w.heap.size, 0, none⟩) hwb]; exact K0.out
    have hne : wb.heap.size ≠ w.heap.size := by omega
    have hne2 : w.heap.size ≠ wb.heap.size := by omega
    have HW2 := Lib.hid hw2
    rw [← hw2] at hO2
    have hs2 := hO2.out.below.size
    have hg2 := hO2.out.lt.2
    clear hown1 hgr1 hO k0 hw2
    go_wp2_with (at_make; rw [← HW2.out]; refine wpList_make_full _ rfl _ _ 108 rfl wb.heap.size 4 i4 (.bool false) 1 Try.underlying108 J.out.1 J.out.2.1 J.out.2.2.1 .i64 .i64 _ _ M rfl rfl rfl rfl ?c2 ?c3 ?c4 ?_)
    case c2 => rw [J.out.2.2.2]; omega
    case c3 => unfold maxLen; omega
    case c4 => omega
    intro w3 hown3 hgr3
    have hbl3 := below_grown hgr3
    have HS3 : Hid (SM wb w3 M wb.heap.size w2.heap.size (at1 (s : Int) a) (fun _ => false)) := ⟨hO2.out.below.trans (hbl3.mono hs2), ownsRow_below hO2.out.row hbl3, own_marks hown3, by omega⟩
    obtain ⟨gd, hgd⟩ : ∃ q, q = w2.heap.size := ⟨_, rfl⟩
    rw [← hgd] at HS3
    rw [← hgd]
    have HI0 : Hid (ShI M L (s : Int) (o : Int) a 0 (at1 (s : Int) a) (fun _ => false) []) := ShI.start _ _ _ _ _
    clear hown3 hgr3 hbl3 hgd HW2 hO2 z0 f0 k1 hne hne2 p0 p1 hs2 hg2
    go_wp2_with fail
    go_loopw [11] (fun i wr => ∃ (k : Nat) (F : Int → Int) (X : Int → Bool) (ys : List Int), k ≤ M ∧ i = .int .i64 (k : Int) ∧ Hid (SM wb wr M wb.heap.size gd F X) ∧ Hid (ShI M L (s : Int) (o : Int) a k F X ys)) (fun i _ => M - (intOf i).toNat)
    case atStart => exact ⟨0, _, _, _, Nat.zero_le _, rfl, HS3, HI0⟩
    case round =>
      obtain ⟨k, F, X, ys, hk, rfl, hM, hI⟩ := hrel
      have hlt := hI.out.lt ⟨by omega, by omega⟩
      have q0 : (k : Int) < (M : Int) := by omega
      have k0 : wr.cell? ⟨w.heap.size, 0, none⟩ = some (.int .i64 (M : Int)) := by rw [hM.out.below.cell (p := ⟨w.heap.size, 0, none⟩) hwb]; exact K0.out
      go_wp2_with fail
      clear k0
      go_loopw [12, 13] (fun a i wr => ∃ (j : Nat) (a' : Int), j ≤ M ∧ a = .int .i64 a' ∧ i = .int .i64 (j : Int) ∧ Hid (SM wb wr M wb.heap.size gd F X) ∧ Hid (PkR (o : Int) (fun x => dsT (M : Int) L x (o : Int)) F X j a')) (fun _ i _ => M - (intOf i).toNat)
      case atStart => exact ⟨0, -1, Nat.zero_le _, rfl, rfl, hM, Lib.hid PkR.start⟩
      case round =>
        obtain ⟨j, b, hj, rfl, rfl, hM, hP⟩ := hrel
        have k0 : wr.cell? ⟨w.heap.size, 0, none⟩ = some (.int .i64 (M : Int)) := by rw [hM.out.below.cell (p := ⟨w.heap.size, 0, none⟩) hwb]; exact K0.out
        have k1 : wr.cell? ⟨w.heap.size, 1, none⟩ = some (.slice ad n cp) := by rw [hM.out.below.cell (p := ⟨w.heap.size, 1, none⟩) hwb]; exact K1.out
        have hsz := hM.out.below.size
        by_cases hlt2 : j < M
        · have p0 : (j : Int) < (M : Int) := by omega
          have p1 : (0 : Int) ≤ (j : Int) := by omega
          have z1 := hM.out.bit hlt2
          have z2 := hM.out.at hlt2
          obtain ⟨xj, hxj⟩ : ∃ x, x = X (j : Int) := ⟨_, rfl⟩
          obtain ⟨Fj, hFj⟩ : ∃ x, x = F (j : Int) := ⟨_, rfl⟩
          rw [← hxj] at z1
          rw [← hFj] at z2
          have Hxj := Lib.hid hxj
          have HFj := Lib.hid hFj
          clear hxj hFj
          cases xj with
          | true =>
            go_wp2_with fail
            go_quiet (fail)
            go_wp2_with fail
            go_roundw
            case rel => exact ⟨j + 1, b, by omega, rfl, by go_num, Lib.hid (hM.out.grow (below_drewN _ _)), Lib.hid (hP.out.skip (fun e => by rw [← Hxj.out] at e; cases e))⟩
            case measure => simp [intOf]; omega
          | false =>
            by_cases hjo : j = o
            · have e1 : ((j : Int) == (o : Int)) = true := by simp; omega
              have e2 : ((j : Int) != (o : Int)) = false := by simp; omega
              have Hjo := Lib.hid hjo
              clear hjo
              go_wp2_with fail
              go_quiet (fail)
              go_wp2_with fail
              go_roundw
              case rel => exact ⟨j + 1, b, by omega, rfl, by go_num, Lib.hid (hM.out.grow (below_drewN _ _)), Lib.hid (hP.out.skip (fun _ e => absurd (by have := Hjo.out; omega) e))⟩
              case measure => simp [intOf]; omega
            · have e1 : ((j : Int) == (o : Int)) = false := by simp; omega
              have e2 : ((j : Int) != (o : Int)) = true := by simp; omega
              have e3 : ¬ ((j : Int) = (o : Int)) := by omega
              by_cases h1 : 0 < Fj
              · have d1 : decide (0 < Fj) = true := decide_eq_true h1
                by_cases ha : b < 0
                · have d2 : decide (b < 0) = true := decide_eq_true ha
                  go_wp2_with fail
                  go_quiet (fail)
                  go_wp2_with fail
                  go_roundw
                  case rel => exact ⟨j + 1, (j : Int), by omega, rfl, by go_num, Lib.hid (hM.out.grow (below_drewN _ _)), Lib.hid (hP.out.first ha Hxj.out.symm (by omega) (by rw [← HFj.out]; exact h1))⟩
                  case measure => simp [intOf]; omega
                · have d2 : decide (b < 0) = false := decide_eq_false ha
                  obtain ⟨an, rfl⟩ : ∃ an : Nat, b = (an : Int) := ⟨b.toNat, by omega⟩
                  have haj : an < j := by rcases hP.out with ⟨h, _⟩ | ⟨_, h, h', _⟩ <;> omega
                  have haM : an < M := by omega
                  have p2 : (0 : Int) ≤ (an : Int) := by omega
                  have p3 : (an : Int) < (M : Int) := by omega
                  have p4 : (0 : Int) ≤ (o : Int) := by omega
                  have p5 : (o : Int) < (M : Int) := by omega
                  have hwr0 : w.heap.size < wr.heap.size := by omega
                  have hgs1 : wb.heap.size < wr.heap.size := (hM.out.row.lt _ rfl).2
                  have hgd1 : gd < wr.heap.size := (hM.out.mark.lt _ rfl).2
                  have HRw : Hid (Row 3 wr lo hi (.slice ad n cp) n (flat L)) := HRb.out.below hM.out.below hhb
                  have hhw : hi ≤ wr.heap.size := by omega
                  obtain ⟨dj, hdj⟩ : ∃ x, x = dsT (M : Int) L (j : Int) (o : Int) := ⟨_, rfl⟩
                  obtain ⟨da, hda⟩ : ∃ x, x = dsT (M : Int) L (an : Int) (o : Int) := ⟨_, rfl⟩
                  have Hdj := Lib.hid hdj
                  have Hda := Lib.hid hda
                  clear hdj hda
                  by_cases h3 : da < dj
                  · have d3 : decide (da < dj) = true := decide_eq_true h3
                    go_wp2_with fail
                    refine wp_region_held_drew (S := (fun w' => w'.cell? ⟨w.heap.size, 0, none⟩ = some (.int .i64 (M : Int)) ∧ w'.cell? ⟨w.heap.size, 1, none⟩ = some (.slice ad n cp) ∧ w'.cell? ⟨wb.heap.size, j, none⟩ = some (.int .i64 Fj) ∧ w'.cell? ⟨gd, j, none⟩ = some (.bool false) ∧ wr.heap.size ≤ w'.heap.size ∧ Below wr.heap.size wr w')) (by kernel_rfl) ?_ (fun hHeld => ?_)
                    · exact rr4_start k0 k1 z2 z1
                    refine step_read 0 70 rfl rfl (by kernel_rfl) (by kernel_rfl) (by kernel_rfl) (fun _ _ _ h => h) (by rfl) (v := ?_) (fun w hSw => ?_) (by assumption) ?_; rotate_left; (focus ((try dsimp only at hSw); go_simp; first | done | exact rfl)); simp only [List.set]
                    refine step_read 1 71 rfl rfl (by kernel_rfl) (by kernel_rfl) (by kernel_rfl) (fun _ _ _ h => h) (by rfl) (v := ?_) (fun w hSw => ?_) (by assumption) ?_; rotate_left; (focus ((try dsimp only at hSw); go_simp; first | done | exact rfl)); simp only [List.set]
                    refine step_read 2 72 rfl rfl (by kernel_rfl) (by kernel_rfl) (by kernel_rfl) (fun _ _ _ h => h) (by rfl) (v := ?_) (fun w hSw => ?_) (by assumption) ?_; rotate_left; (focus ((try dsimp only at hSw); go_simp; first | done | exact rfl)); simp only [List.set]
                    refine step_read 3 73 rfl rfl (by kernel_rfl) (by kernel_rfl) (by kernel_rfl) (fun _ _ _ h => h) (by rfl) (v := ?_) (fun w hSw => ?_) (by assumption) ?_; rotate_left; (focus ((try dsimp only at hSw); go_simp; first | done | exact rfl)); simp only [List.set]
                    refine step_read 4 74 rfl rfl (by kernel_rfl) (by kernel_rfl) (by kernel_rfl) (fun _ _ _ h => h) (by rfl) (v := ?_) (fun w hSw => ?_) (by assumption) ?_; rotate_left; (focus ((try dsimp only at hSw); go_simp; first | done | exact rfl)); simp only [List.set]
                    refine step_read 5 75 rfl rfl (by kernel_rfl) (by kernel_rfl) (by kernel_rfl) (fun _ _ _ h => h) (by rfl) (v := ?_) (fun w hSw => ?_) (by assumption) ?_; rotate_left; (focus ((try dsimp only at hSw); go_simp; first | done | exact rfl)); simp only [List.set]
                    refine step_read 6 76 rfl rfl (by kernel_rfl) (by kernel_rfl) (by kernel_rfl) (fun _ _ _ h => h) (by rfl) (v := ?_) (fun w hSw => ?_) (by assumption) ?_; rotate_left; (focus ((try dsimp only at hSw); go_simp; first | done | exact rfl)); simp only [List.set]
                    refine step_read 7 77 rfl rfl (by kernel_rfl) (by kernel_rfl) (by kernel_rfl) (fun _ _ _ h => h) (by rfl) (v := ?_) (fun w hSw => ?_) (by assumption) ?_; rotate_left; (focus ((try dsimp only at hSw); go_simp; first | done | exact rfl)); simp only [List.set]
                    refine step_read 8 78 rfl rfl (by kernel_rfl) (by kernel_rfl) (by kernel_rfl) (fun _ _ _ h => h) (by rfl) (v := ?_) (fun w hSw => ?_) (by assumption) ?_; rotate_left; (focus ((try dsimp only at hSw); go_simp; first | done | exact rfl)); simp only [List.set]
                    refine step_read 9 79 rfl rfl (by kernel_rfl) (by kernel_rfl) (by kernel_rfl) (fun _ _ _ h => h) (by rfl) (v := ?_) (fun w hSw => ?_) (by assumption) ?_; rotate_left; (focus ((try dsimp only at hSw); go_simp; first | done | exact rfl)); simp only [List.set]
                    refine step_read 10 80 rfl rfl (by kernel_rfl) (by kernel_rfl) (by kernel_rfl) (fun _ _ _ h => h) (by rfl) (v := ?_) (fun w hSw => ?_) (by assumption) ?_; rotate_left; (focus ((try dsimp only at hSw); go_simp; first | done | exact rfl)); simp only [List.set]
                    refine step_read 11 81 rfl rfl (by kernel_rfl) (by kernel_rfl) (by kernel_rfl) (fun _ _ _ h => h) (by rfl) (v := ?_) (fun w hSw => ?_) (by assumption) ?_; rotate_left; (focus ((try dsimp only at hSw); go_simp; first | done | exact rfl)); simp only [List.set]
                    refine step_read 12 82 rfl rfl (by kernel_rfl) (by kernel_rfl) (by kernel_rfl) (fun _ _ _ h => h) (by rfl) (v := ?_) (fun w hSw => ?_) (by assumption) ?_; rotate_left; (focus ((try dsimp only at hSw); go_simp; first | done | exact rfl)); simp only [List.set]
                    refine step_read 13 83 rfl rfl (by kernel_rfl) (by kernel_rfl) (by kernel_rfl) (fun _ _ _ h => h) (by rfl) (v := ?_) (fun w hSw => ?_) (by assumption) ?_; rotate_left; (focus ((try dsimp only at hSw); go_simp; first | done | exact rfl)); simp only [List.set]
                    refine step_read 14 84 rfl rfl (by kernel_rfl) (by kernel_rfl) (by kernel_rfl) (fun _ _ _ h => h) (by rfl) (v := ?_) (fun w hSw => ?_) (by assumption) ?_; rotate_left; (focus ((try dsimp only at hSw); go_simp; first | done | exact rfl)); simp only [List.set]
                    refine step_read 15 85 rfl rfl (by kernel_rfl) (by kernel_rfl) (by kernel_rfl) (fun _ _ _ h => h) (by rfl) (v := ?_) (fun w hSw => ?_) (by assumption) ?_; rotate_left; (focus ((try dsimp only at hSw); go_simp; first | done | exact rfl)); simp only [List.set]
                    refine step_read 16 86 rfl rfl (by kernel_rfl) (by kernel_rfl) (by kernel_rfl) (fun _ _ _ h => h) (by rfl) (v := ?_) (fun w hSw => ?_) (by assumption) ?_; rotate_left; (focus ((try dsimp only at hSw); go_simp; first | done | exact rfl)); simp only [List.set]
                    refine step_read 17 87 rfl rfl (by kernel_rfl) (by kernel_rfl) (by kernel_rfl) (fun _ _ _ h => h) (by rfl) (v := ?_) (fun w hSw => ?_) (by assumption) ?_; rotate_left; (focus ((try dsimp only at hSw); go_simp; first | done | exact rfl)); simp only [List.set]
                    refine step_read 18 88 rfl rfl (by kernel_rfl) (by kernel_rfl) (by kernel_rfl) (fun _ _ _ h => h) (by rfl) (v := ?_) (fun w hSw => ?_) (by assumption) ?_; rotate_left; (focus ((try dsimp only at hSw); go_simp; first | done | exact rfl)); simp only [List.set]
                    refine step_read 19 89 rfl rfl (by kernel_rfl) (by kernel_rfl) (by kernel_rfl) (fun _ _ _ h => h) (by rfl) (v := ?_) (fun w hSw => ?_) (by assumption) ?_; rotate_left; (focus ((try dsimp only at hSw); go_simp; first | done | exact rfl)); simp only [List.set]
                    refine step_read 20 90 rfl rfl (by kernel_rfl) (by kernel_rfl) (by kernel_rfl) (fun _ _ _ h => h) (by rfl) (v := ?_) (fun w hSw => ?_) (by assumption) ?_; rotate_left; (focus ((try dsimp only at hSw); go_simp; first | done | exact rfl)); simp only [List.set]
                    refine step_read 21 91 rfl rfl (by kernel_rfl) (by kernel_rfl) (by kernel_rfl) (fun _ _ _ h => h) (by rfl) (v := ?_) (fun w hSw => ?_) (by assumption) ?_; rotate_left; (focus ((try dsimp only at hSw); go_simp; first | done | exact rfl)); simp only [List.set]
                    refine step_read 22 92 rfl rfl (by kernel_rfl) (by kernel_rfl) (by kernel_rfl) (fun _ _ _ h => h) (by rfl) (v := ?_) (fun w hSw => ?_) (by assumption) ?_; rotate_left; (focus ((try dsimp only at hSw); go_simp; first | done | exact rfl)); simp only [List.set]
                    refine step_read 24 94 rfl rfl (by kernel_rfl) (by kernel_rfl) (by kernel_rfl) (fun _ _ _ h => h) (by rfl) (v := ?_) (fun w hSw => ?_) (by assumption) ?_; rotate_left; (focus ((try dsimp only at hSw); go_simp; first | done | exact rfl)); simp only [List.set]
                    refine step_read 27 97 rfl rfl (by kernel_rfl) (by kernel_rfl) (by kernel_rfl) (fun _ _ _ h => h) (by rfl) (v := ?_) (fun w hSw => ?_) (by assumption) ?_; rotate_left; (focus ((try dsimp only at hSw); go_simp; first | done | exact rfl)); simp only [List.set]
                    refine step_read 28 98 rfl rfl (by kernel_rfl) (by kernel_rfl) (by kernel_rfl) (fun _ _ _ h => h) (by rfl) (v := ?_) (fun w hSw => ?_) (by assumption) ?_; rotate_left; (focus ((try dsimp only at hSw); go_simp; first | done | exact rfl)); simp only [List.set]
                    refine step_read 30 100 rfl rfl (by kernel_rfl) (by kernel_rfl) (by kernel_rfl) (fun _ _ _ h => h) (by rfl) (v := ?_) (fun w hSw => ?_) (by assumption) ?_; rotate_left; (focus ((try dsimp only at hSw); go_simp; first | done | exact rfl)); simp only [List.set]
                    refine wpAnyH_ready (rs := [23]) (by kernel_rfl) (by simp) ?_
                    refine AllReadyH.cons rfl (fun Kc hK => ?_) (AllReadyH.nil)
                    go_simp
                    go_at_call 39
                    refine (sdist_yes M lo hi n _ L j _ HL.out (HRw.out.below (rr4_out (by assumption)).2 (by omega)) (by have hq := (rr4_out (by assumption)).1; omega) HG.out hlt2).mono ?_
                    rintro e w_yj ⟨dv_yj, rfl, hr_yj, hb_yj⟩
                    obtain ⟨g_yj, c_yj, hdv_yj, _, hl_yj, hc_yj⟩ := row_cells (by omega) hr_yj
                    subst hdv_yj
                    have yj : w_yj.cell? ⟨g_yj, o, none⟩ = some (.int .i64 dj) := by rw [Hdj.out]; exact hc_yj o _ (tabI_at _ ho)
                    have hs_yj := hb_yj.size
                    clear hc_yj hr_yj
                    refine hK.out _ _ ?_ (fun hHeld => ?_)
                    · exact rr4_keep (by omega) (by omega) (by omega) (by omega) hb_yj (by assumption)
                    clear hK Kc
                    refine step_read 25 95 rfl rfl (by kernel_rfl) (by kernel_rfl) (by kernel_rfl) (fun _ _ _ h => h) (by rfl) (v := ?_) (fun w hSw => ?_) (by assumption) ?_; rotate_left; (focus ((try dsimp only at hSw); go_simp; first | done | exact rfl)); simp only [List.set]
                    refine wpAnyH_ready (rs := [26, 29]) (by kernel_rfl) (by simp) ?_
                    refine AllReadyH.cons rfl (fun Kc hK => ?_) (AllReadyH.cons rfl (fun Kc hK => ?_) (AllReadyH.nil))
                    · go_simp
                      refine hK.out _ _ ?_ (fun hHeld => ?_)
                      · assumption
                      clear hK Kc
                      refine wpAnyH_ready (rs := [29]) (by kernel_rfl) (by simp) ?_
                      refine AllReadyH.cons rfl (fun Kc hK => ?_) (AllReadyH.nil)
                      go_simp
                      go_at_call 39
                      refine (sdist_yes M lo hi n _ L an _ HL.out (HRw.out.below (rr4_out (by assumption)).2 (by omega)) (by have hq := (rr4_out (by assumption)).1; omega) HG.out haM).mono ?_
                      rintro e w_ya ⟨dv_ya, rfl, hr_ya, hb_ya⟩
                      obtain ⟨g_ya, c_ya, hdv_ya, _, hl_ya, hc_ya⟩ := row_cells (by omega) hr_ya
                      subst hdv_ya
                      have ya : w_ya.cell? ⟨g_ya, o, none⟩ = some (.int .i64 da) := by rw [Hda.out]; exact hc_ya o _ (tabI_at _ ho)
                      have yj := (hb_ya.cell (p := ⟨g_yj, o, none⟩) hl_yj).trans yj
                      have hs_ya := hb_ya.size
                      clear hc_ya hr_ya
                      refine hK.out _ _ ?_ (fun hHeld => ?_)
                      · exact rr4_keep (by omega) (by omega) (by omega) (by omega) hb_ya (by assumption)
                      clear hK Kc
                      refine step_read 31 101 rfl rfl (by kernel_rfl) (by kernel_rfl) (by kernel_rfl) (fun _ _ _ h => h) (by rfl) (v := ?_) (fun w hSw => ?_) (by assumption) ?_; rotate_left; (focus ((try dsimp only at hSw); go_simp; first | done | exact rfl)); simp only [List.set]
                      refine wpAnyH_ready (rs := [32]) (by kernel_rfl) (by simp) ?_
                      refine AllReadyH.cons rfl (fun Kc hK => ?_) (AllReadyH.nil)
                      go_simp
                      refine hK.out _ _ ?_ (fun hHeld => ?_)
                      · assumption
                      clear hK Kc
                      refine step_read 33 103 rfl rfl (by kernel_rfl) (by kernel_rfl) (by kernel_rfl) (fun _ _ _ h => h) (by rfl) (v := ?_) (fun w hSw => ?_) (by assumption) ?_; rotate_left; (focus ((try dsimp only at hSw); go_simp; first | done | exact rfl)); simp only [List.set]
                      refine step_read 34 104 rfl rfl (by kernel_rfl) (by kernel_rfl) (by kernel_rfl) (fun _ _ _ h => h) (by rfl) (v := ?_) (fun w hSw => ?_) (by assumption) ?_; rotate_left; (focus ((try dsimp only at hSw); go_simp; first | done | exact rfl)); simp only [List.set]
                      refine step_read 35 105 rfl rfl (by kernel_rfl) (by kernel_rfl) (by kernel_rfl) (fun _ _ _ h => h) (by rfl) (v := ?_) (fun w hSw => ?_) (by assumption) ?_; rotate_left; (focus ((try dsimp only at hSw); go_simp; first | done | exact rfl)); simp only [List.set]
                      refine wpAnyH_done (by kernel_rfl) ?_ _
                      have hb9 := (rr4_out (by assumption)).2
                      have HMf := Lib.hid (hM.out.grow hb9)
                      clear hb9
                      go_wp2_with fail
                      go_roundw
                      case rel => exact ⟨j + 1, (j : Int), by omega, rfl, by go_num, HMf, Lib.hid (hP.out.more Hxj.out.symm (by omega) (by rw [← HFj.out]; exact h1) (by show dsT _ _ _ _ < dsT _ _ _ _; rw [← Hdj.out, ← Hda.out]; exact h3))⟩
                      case measure => simp [intOf]; omega
                    · go_simp
                      go_at_call 39
                      refine (sdist_yes M lo hi n _ L an _ HL.out (HRw.out.below (rr4_out (by assumption)).2 (by omega)) (by have hq := (rr4_out (by assumption)).1; omega) HG.out haM).mono ?_
                      rintro e w_ya ⟨dv_ya, rfl, hr_ya, hb_ya⟩
                      obtain ⟨g_ya, c_ya, hdv_ya, _, hl_ya, hc_ya⟩ := row_cells (by omega) hr_ya
                      subst hdv_ya
                      have ya : w_ya.cell? ⟨g_ya, o, none⟩ = some (.int .i64 da) := by rw [Hda.out]; exact hc_ya o _ (tabI_at _ ho)
                      have yj := (hb_ya.cell (p := ⟨g_yj, o, none⟩) hl_yj).trans yj
                      have hs_ya := hb_ya.size
                      clear hc_ya hr_ya
                      refine hK.out _ _ ?_ (fun hHeld => ?_)
                      · exact rr4_keep (by omega) (by omega) (by omega) (by omega) hb_ya (by assumption)
                      clear hK Kc
                      refine step_read 31 101 rfl rfl (by kernel_rfl) (by kernel_rfl) (by kernel_rfl) (fun _ _ _ h => h) (by rfl) (v := ?_) (fun w hSw => ?_) (by assumption) ?_; rotate_left; (focus ((try dsimp only at hSw); go_simp; first | done | exact rfl)); simp only [List.set]
                      refine wpAnyH_ready (rs := [26, 32]) (by kernel_rfl) (by simp) ?_
                      refine AllReadyH.cons rfl (fun Kc hK => ?_) (AllReadyH.cons rfl (fun Kc hK => ?_) (AllReadyH.nil))
                      · go_simp
                        refine hK.out _ _ ?_ (fun hHeld => ?_)
                        · assumption
                        clear hK Kc
                        refine wpAnyH_ready (rs := [32]) (by kernel_rfl) (by simp) ?_
                        refine AllReadyH.cons rfl (fun Kc hK => ?_) (AllReadyH.nil)
                        go_simp
                        refine hK.out _ _ ?_ (fun hHeld => ?_)
                        · assumption
                        clear hK Kc
                        refine step_read 33 103 rfl rfl (by kernel_rfl) (by kernel_rfl) (by kernel_rfl) (fun _ _ _ h => h) (by rfl) (v := ?_) (fun w hSw => ?_) (by assumption) ?_; rotate_left; (focus ((try dsimp only at hSw); go_simp; first | done | exact rfl)); simp only [List.set]
                        refine step_read 34 104 rfl rfl (by kernel_rfl) (by kernel_rfl) (by kernel_rfl) (fun _ _ _ h => h) (by rfl) (v := ?_) (fun w hSw => ?_) (by assumption) ?_; rotate_left; (focus ((try dsimp only at hSw); go_simp; first | done | exact rfl)); simp only [List.set]
                        refine step_read 35 105 rfl rfl (by kernel_rfl) (by kernel_rfl) (by kernel_rfl) (fun _ _ _ h => h) (by rfl) (v := ?_) (fun w hSw => ?_) (by assumption) ?_; rotate_left; (focus ((try dsimp only at hSw); go_simp; first | done | exact rfl)); simp only [List.set]
                        refine wpAnyH_done (by kernel_rfl) ?_ _
                        have hb9 := (rr4_out (by assumption)).2
                        have HMf := Lib.hid (hM.out.grow hb9)
                        clear hb9
                        go_wp2_with fail
                        go_roundw
                        case rel => exact ⟨j + 1, (j : Int), by omega, rfl, by go_num, HMf, Lib.hid (hP.out.more Hxj.out.symm (by omega) (by rw [← HFj.out]; exact h1) (by show dsT _ _ _ _ < dsT _ _ _ _; rw [← Hdj.out, ← Hda.out]; exact h3))⟩
                        case measure => simp [intOf]; omega
                      · go_simp
                        refine hK.out _ _ ?_ (fun hHeld => ?_)
                        · assumption
                        clear hK Kc
                        refine wpAnyH_ready (rs := [26]) (by kernel_rfl) (by simp) ?_
                        refine AllReadyH.cons rfl (fun Kc hK => ?_) (AllReadyH.nil)
                        go_simp
                        refine hK.out _ _ ?_ (fun hHeld => ?_)
                        · assumption
                        clear hK Kc
                        refine step_read 33 103 rfl rfl (by kernel_rfl) (by kernel_rfl) (by kernel_rfl) (fun _ _ _ h => h) (by rfl) (v := ?_) (fun w hSw => ?_) (by assumption) ?_; rotate_left; (focus ((try dsimp only at hSw); go_simp; first | done | exact rfl)); simp only [List.set]
                        refine step_read 34 104 rfl rfl (by kernel_rfl) (by kernel_rfl) (by kernel_rfl) (fun _ _ _ h => h) (by rfl) (v := ?_) (fun w hSw => ?_) (by assumption) ?_; rotate_left; (focus ((try dsimp only at hSw); go_simp; first | done | exact rfl)); simp only [List.set]
                        refine step_read 35 105 rfl rfl (by kernel_rfl) (by kernel_rfl) (by kernel_rfl) (fun _ _ _ h => h) (by rfl) (v := ?_) (fun w hSw => ?_) (by assumption) ?_; rotate_left; (focus ((try dsimp only at hSw); go_simp; first | done | exact rfl)); simp only [List.set]
                        refine wpAnyH_done (by kernel_rfl) ?_ _
                        have hb9 := (rr4_out (by assumption)).2
                        have HMf := Lib.hid (hM.out.grow hb9)
                        clear hb9
                        go_wp2_with fail
                        go_roundw
                        case rel => exact ⟨j + 1, (j : Int), by omega, rfl, by go_num, HMf, Lib.hid (hP.out.more Hxj.out.symm (by omega) (by rw [← HFj.out]; exact h1) (by show dsT _ _ _ _ < dsT _ _ _ _; rw [← Hdj.out, ← Hda.out]; exact h3))⟩
                        case measure => simp [intOf]; omega
                  · have d3 : decide (da < dj) = false := decide_eq_false h3
                    go_wp2_with fail
                    refine wp_region_held_drew (S := (fun w' => w'.cell? ⟨w.heap.size, 0, none⟩ = some (.int .i64 (M : Int)) ∧ w'.cell? ⟨w.heap.size, 1, none⟩ = some (.slice ad n cp) ∧ w'.cell? ⟨wb.heap.size, j, none⟩ = some (.int .i64 Fj) ∧ w'.cell? ⟨gd, j, none⟩ = some (.bool false) ∧ wr.heap.size ≤ w'.heap.size ∧ Below wr.heap.size wr w')) (by kernel_rfl) ?_ (fun hHeld => ?_)
                    · exact rr4_start k0 k1 z2 z1
                    refine step_read 0 70 rfl rfl (by kernel_rfl) (by kernel_rfl) (by kernel_rfl) (fun _ _ _ h => h) (by rfl) (v := ?_) (fun w hSw => ?_) (by assumption) ?_; rotate_left; (focus ((try dsimp only at hSw); go_simp; first | done | exact rfl)); simp only [List.set]
                    refine step_read 1 71 rfl rfl (by kernel_rfl) (by kernel_rfl) (by kernel_rfl) (fun _ _ _ h => h) (by rfl) (v := ?_) (fun w hSw => ?_) (by assumption) ?_; rotate_left; (focus ((try dsimp only at hSw); go_simp; first | done | exact rfl)); simp only [List.set]
                    refine step_read 2 72 rfl rfl (by kernel_rfl) (by kernel_rfl) (by kernel_rfl) (fun _ _ _ h => h) (by rfl) (v := ?_) (fun w hSw => ?_) (by assumption) ?_; rotate_left; (focus ((try dsimp only at hSw); go_simp; first | done | exact rfl)); simp only [List.set]
                    refine step_read 3 73 rfl rfl (by kernel_rfl) (by kernel_rfl) (by kernel_rfl) (fun _ _ _ h => h) (by rfl) (v := ?_) (fun w hSw => ?_) (by assumption) ?_; rotate_left; (focus ((try dsimp only at hSw); go_simp; first | done | exact rfl)); simp only [List.set]
                    refine step_read 4 74 rfl rfl (by kernel_rfl) (by kernel_rfl) (by kernel_rfl) (fun _ _ _ h => h) (by rfl) (v := ?_) (fun w hSw => ?_) (by assumption) ?_; rotate_left; (focus ((try dsimp only at hSw); go_simp; first | done | exact rfl)); simp only [List.set]
                    refine step_read 5 75 rfl rfl (by kernel_rfl) (by kernel_rfl) (by kernel_rfl) (fun _ _ _ h => h) (by rfl) (v := ?_) (fun w hSw => ?_) (by assumption) ?_; rotate_left; (focus ((try dsimp only at hSw); go_simp; first | done | exact rfl)); simp only [List.set]
                    refine step_read 6 76 rfl rfl (by kernel_rfl) (by kernel_rfl) (by kernel_rfl) (fun _ _ _ h => h) (by rfl) (v := ?_) (fun w hSw => ?_) (by assumption) ?_; rotate_left; (focus ((try dsimp only at hSw); go_simp; first | done | exact rfl)); simp only [List.set]
                    refine step_read 7 77 rfl rfl (by kernel_rfl) (by kernel_rfl) (by kernel_rfl) (fun _ _ _ h => h) (by rfl) (v := ?_) (fun w hSw => ?_) (by assumption) ?_; rotate_left; (focus ((try dsimp only at hSw); go_simp; first | done | exact rfl)); simp only [List.set]
                    refine step_read 8 78 rfl rfl (by kernel_rfl) (by kernel_rfl) (by kernel_rfl) (fun _ _ _ h => h) (by rfl) (v := ?_) (fun w hSw => ?_) (by assumption) ?_; rotate_left; (focus ((try dsimp only at hSw); go_simp; first | done | exact rfl)); simp only [List.set]
                    refine step_read 9 79 rfl rfl (by kernel_rfl) (by kernel_rfl) (by kernel_rfl) (fun _ _ _ h => h) (by rfl) (v := ?_) (fun w hSw => ?_) (by assumption) ?_; rotate_left; (focus ((try dsimp only at hSw); go_simp; first | done | exact rfl)); simp only [List.set]
                    refine step_read 10 80 rfl rfl (by kernel_rfl) (by kernel_rfl) (by kernel_rfl) (fun _ _ _ h => h) (by rfl) (v := ?_) (fun w hSw => ?_) (by assumption) ?_; rotate_left; (focus ((try dsimp only at hSw); go_simp; first | done | exact rfl)); simp only [List.set]
                    refine step_read 11 81 rfl rfl (by kernel_rfl) (by kernel_rfl) (by kernel_rfl) (fun _ _ _ h => h) (by rfl) (v := ?_) (fun w hSw => ?_) (by assumption) ?_; rotate_left; (focus ((try dsimp only at hSw); go_simp; first | done | exact rfl)); simp only [List.set]
                    refine step_read 12 82 rfl rfl (by kernel_rfl) (by kernel_rfl) (by kernel_rfl) (fun _ _ _ h => h) (by rfl) (v := ?_) (fun w hSw => ?_) (by assumption) ?_; rotate_left; (focus ((try dsimp only at hSw); go_simp; first | done | exact rfl)); simp only [List.set]
                    refine step_read 13 83 rfl rfl (by kernel_rfl) (by kernel_rfl) (by kernel_rfl) (fun _ _ _ h => h) (by rfl) (v := ?_) (fun w hSw => ?_) (by assumption) ?_; rotate_left; (focus ((try dsimp only at hSw); go_simp; first | done | exact rfl)); simp only [List.set]
                    refine step_read 14 84 rfl rfl (by kernel_rfl) (by kernel_rfl) (by kernel_rfl) (fun _ _ _ h => h) (by rfl) (v := ?_) (fun w hSw => ?_) (by assumption) ?_; rotate_left; (focus ((try dsimp only at hSw); go_simp; first | done | exact rfl)); simp only [List.set]
                    refine step_read 15 85 rfl rfl (by kernel_rfl) (by kernel_rfl) (by kernel_rfl) (fun _ _ _ h => h) (by rfl) (v := ?_) (fun w hSw => ?_) (by assumption) ?_; rotate_left; (focus ((try dsimp only at hSw); go_simp; first | done | exact rfl)); simp only [List.set]
                    refine step_read 16 86 rfl rfl (by kernel_rfl) (by kernel_rfl) (by kernel_rfl) (fun _ _ _ h => h) (by rfl) (v := ?_) (fun w hSw => ?_) (by assumption) ?_; rotate_left; (focus ((try dsimp only at hSw); go_simp; first | done | exact rfl)); simp only [List.set]
                    refine step_read 17 87 rfl rfl (by kernel_rfl) (by kernel_rfl) (by kernel_rfl) (fun _ _ _ h => h) (by rfl) (v := ?_) (fun w hSw => ?_) (by assumption) ?_; rotate_left; (focus ((try dsimp only at hSw); go_simp; first | done | exact rfl)); simp only [List.set]
                    refine step_read 18 88 rfl rfl (by kernel_rfl) (by kernel_rfl) (by kernel_rfl) (fun _ _ _ h => h) (by rfl) (v := ?_) (fun w hSw => ?_) (by assumption) ?_; rotate_left; (focus ((try dsimp only at hSw); go_simp; first | done | exact rfl)); simp only [List.set]
                    refine step_read 19 89 rfl rfl (by kernel_rfl) (by kernel_rfl) (by kernel_rfl) (fun _ _ _ h => h) (by rfl) (v := ?_) (fun w hSw => ?_) (by assumption) ?_; rotate_left; (focus ((try dsimp only at hSw); go_simp; first | done | exact rfl)); simp only [List.set]
                    refine step_read 20 90 rfl rfl (by kernel_rfl) (by kernel_rfl) (by kernel_rfl) (fun _ _ _ h => h) (by rfl) (v := ?_) (fun w hSw => ?_) (by assumption) ?_; rotate_left; (focus ((try dsimp only at hSw); go_simp; first | done | exact rfl)); simp only [List.set]
                    refine step_read 21 91 rfl rfl (by kernel_rfl) (by kernel_rfl) (by kernel_rfl) (fun _ _ _ h => h) (by rfl) (v := ?_) (fun w hSw => ?_) (by assumption) ?_; rotate_left; (focus ((try dsimp only at hSw); go_simp; first | done | exact rfl)); simp only [List.set]
                    refine step_read 22 92 rfl rfl (by kernel_rfl) (by kernel_rfl) (by kernel_rfl) (fun _ _ _ h => h) (by rfl) (v := ?_) (fun w hSw => ?_) (by assumption) ?_; rotate_left; (focus ((try dsimp only at hSw); go_simp; first | done | exact rfl)); simp only [List.set]
                    refine step_read 24 94 rfl rfl (by kernel_rfl) (by kernel_rfl) (by kernel_rfl) (fun _ _ _ h => h) (by rfl) (v := ?_) (fun w hSw => ?_) (by assumption) ?_; rotate_left; (focus ((try dsimp only at hSw); go_simp; first | done | exact rfl)); simp only [List.set]
                    refine step_read 27 97 rfl rfl (by kernel_rfl) (by kernel_rfl) (by kernel_rfl) (fun _ _ _ h => h) (by rfl) (v := ?_) (fun w hSw => ?_) (by assumption) ?_; rotate_left; (focus ((try dsimp only at hSw); go_simp; first | done | exact rfl)); simp only [List.set]
                    refine step_read 28 98 rfl rfl (by kernel_rfl) (by kernel_rfl) (by kernel_rfl) (fun _ _ _ h => h) (by rfl) (v := ?_) (fun w hSw => ?_) (by assumption) ?_; rotate_left; (focus ((try dsimp only at hSw); go_simp; first | done | exact rfl)); simp only [List.set]
                    refine step_read 30 100 rfl rfl (by kernel_rfl) (by kernel_rfl) (by kernel_rfl) (fun _ _ _ h => h) (by rfl) (v := ?_) (fun w hSw => ?_) (by assumption) ?_; rotate_left; (focus ((try dsimp only at hSw); go_simp; first | done | exact rfl)); simp only [List.set]
                    refine wpAnyH_ready (rs := [23]) (by kernel_rfl) (by simp) ?_
                    refine AllReadyH.cons rfl (fun Kc hK => ?_) (AllReadyH.nil)
                    go_simp
                    go_at_call 39
                    refine (sdist_yes M lo hi n _ L j _ HL.out (HRw.out.below (rr4_out (by assumption)).2 (by omega)) (by have hq := (rr4_out (by assumption)).1; omega) HG.out hlt2).mono ?_
                    rintro e w_yj ⟨dv_yj, rfl, hr_yj, hb_yj⟩
                    obtain ⟨g_yj, c_yj, hdv_yj, _, hl_yj, hc_yj⟩ := row_cells (by omega) hr_yj
                    subst hdv_yj
                    have yj : w_yj.cell? ⟨g_yj, o, none⟩ = some (.int .i64 dj) := by rw [Hdj.out]; exact hc_yj o _ (tabI_at _ ho)
                    have hs_yj := hb_yj.size
                    clear hc_yj hr_yj
                    refine hK.out _ _ ?_ (fun hHeld => ?_)
                    · exact rr4_keep (by omega) (by omega) (by omega) (by omega) hb_yj (by assumption)
                    clear hK Kc
                    refine step_read 25 95 rfl rfl (by kernel_rfl) (by kernel_rfl) (by kernel_rfl) (fun _ _ _ h => h) (by rfl) (v := ?_) (fun w hSw => ?_) (by assumption) ?_; rotate_left; (focus ((try dsimp only at hSw); go_simp; first | done | exact rfl)); simp only [List.set]
                    refine wpAnyH_ready (rs := [26, 29]) (by kernel_rfl) (by simp) ?_
                    refine AllReadyH.cons rfl (fun Kc hK => ?_) (AllReadyH.cons rfl (fun Kc hK => ?_) (AllReadyH.nil))
                    · go_simp
                      refine hK.out _ _ ?_ (fun hHeld => ?_)
                      · assumption
                      clear hK Kc
                      refine wpAnyH_ready (rs := [29]) (by kernel_rfl) (by simp) ?_
                      refine AllReadyH.cons rfl (fun Kc hK => ?_) (AllReadyH.nil)
                      go_simp
                      go_at_call 39
                      refine (sdist_yes M lo hi n _ L an _ HL.out (HRw.out.below (rr4_out (by assumption)).2 (by omega)) (by have hq := (rr4_out (by assumption)).1; omega) HG.out haM).mono ?_
                      rintro e w_ya ⟨dv_ya, rfl, hr_ya, hb_ya⟩
                      obtain ⟨g_ya, c_ya, hdv_ya, _, hl_ya, hc_ya⟩ := row_cells (by omega) hr_ya
                      subst hdv_ya
                      have ya : w_ya.cell? ⟨g_ya, o, none⟩ = some (.int .i64 da) := by rw [Hda.out]; exact hc_ya o _ (tabI_at _ ho)
                      have yj := (hb_ya.cell (p := ⟨g_yj, o, none⟩) hl_yj).trans yj
                      have hs_ya := hb_ya.size
                      clear hc_ya hr_ya
                      refine hK.out _ _ ?_ (fun hHeld => ?_)
                      · exact rr4_keep (by omega) (by omega) (by omega) (by omega) hb_ya (by assumption)
                      clear hK Kc
                      refine step_read 31 101 rfl rfl (by kernel_rfl) (by kernel_rfl) (by kernel_rfl) (fun _ _ _ h => h) (by rfl) (v := ?_) (fun w hSw => ?_) (by assumption) ?_; rotate_left; (focus ((try dsimp only at hSw); go_simp; first | done | exact rfl)); simp only [List.set]
                      refine wpAnyH_ready (rs := [32]) (by kernel_rfl) (by simp) ?_
                      refine AllReadyH.cons rfl (fun Kc hK => ?_) (AllReadyH.nil)
                      go_simp
                      refine hK.out _ _ ?_ (fun hHeld => ?_)
                      · assumption
                      clear hK Kc
                      refine step_read 33 103 rfl rfl (by kernel_rfl) (by kernel_rfl) (by kernel_rfl) (fun _ _ _ h => h) (by rfl) (v := ?_) (fun w hSw => ?_) (by assumption) ?_; rotate_left; (focus ((try dsimp only at hSw); go_simp; first | done | exact rfl)); simp only [List.set]
                      refine step_read 34 104 rfl rfl (by kernel_rfl) (by kernel_rfl) (by kernel_rfl) (fun _ _ _ h => h) (by rfl) (v := ?_) (fun w hSw => ?_) (by assumption) ?_; rotate_left; (focus ((try dsimp only at hSw); go_simp; first | done | exact rfl)); simp only [List.set]
                      refine step_read 35 105 rfl rfl (by kernel_rfl) (by kernel_rfl) (by kernel_rfl) (fun _ _ _ h => h) (by rfl) (v := ?_) (fun w hSw => ?_) (by assumption) ?_; rotate_left; (focus ((try dsimp only at hSw); go_simp; first | done | exact rfl)); simp only [List.set]
                      refine wpAnyH_done (by kernel_rfl) ?_ _
                      have hb9 := (rr4_out (by assumption)).2
                      have HMf := Lib.hid (hM.out.grow hb9)
                      clear hb9
                      go_wp2_with fail
                      go_roundw
                      case rel => exact ⟨j + 1, (an : Int), by omega, rfl, by go_num, HMf, Lib.hid (hP.out.less (by show ¬ (dsT _ _ _ _ < dsT _ _ _ _); rw [← Hdj.out, ← Hda.out]; omega))⟩
                      case measure => simp [intOf]; omega
                    · go_simp
                      go_at_call 39
                      refine (sdist_yes M lo hi n _ L an _ HL.out (HRw.out.below (rr4_out (by assumption)).2 (by omega)) (by have hq := (rr4_out (by assumption)).1; omega) HG.out haM).mono ?_
                      rintro e w_ya ⟨dv_ya, rfl, hr_ya, hb_ya⟩
                      obtain ⟨g_ya, c_ya, hdv_ya, _, hl_ya, hc_ya⟩ := row_cells (by omega) hr_ya
                      subst hdv_ya
                      have ya : w_ya.cell? ⟨g_ya, o, none⟩ = some (.int .i64 da) := by rw [Hda.out]; exact hc_ya o _ (tabI_at _ ho)
                      have yj := (hb_ya.cell (p := ⟨g_yj, o, none⟩) hl_yj).trans yj
                      have hs_ya := hb_ya.size
                      clear hc_ya hr_ya
                      refine hK.out _ _ ?_ (fun hHeld => ?_)
                      · exact rr4_keep (by omega) (by omega) (by omega) (by omega) hb_ya (by assumption)
                      clear hK Kc
                      refine step_read 31 101 rfl rfl (by kernel_rfl) (by kernel_rfl) (by kernel_rfl) (fun _ _ _ h => h) (by rfl) (v := ?_) (fun w hSw => ?_) (by assumption) ?_; rotate_left; (focus ((try dsimp only at hSw); go_simp; first | done | exact rfl)); simp only [List.set]
                      refine wpAnyH_ready (rs := [26, 32]) (by kernel_rfl) (by simp) ?_
                      refine AllReadyH.cons rfl (fun Kc hK => ?_) (AllReadyH.cons rfl (fun Kc hK => ?_) (AllReadyH.nil))
                      · go_simp
                        refine hK.out _ _ ?_ (fun hHeld => ?_)
                        · assumption
                        clear hK Kc
                        refine wpAnyH_ready (rs := [32]) (by kernel_rfl) (by simp) ?_
                        refine AllReadyH.cons rfl (fun Kc hK => ?_) (AllReadyH.nil)
                        go_simp
                        refine hK.out _ _ ?_ (fun hHeld => ?_)
                        · assumption
                        clear hK Kc
                        refine step_read 33 103 rfl rfl (by kernel_rfl) (by kernel_rfl) (by kernel_rfl) (fun _ _ _ h => h) (by rfl) (v := ?_) (fun w hSw => ?_) (by assumption) ?_; rotate_left; (focus ((try dsimp only at hSw); go_simp; first | done | exact rfl)); simp only [List.set]
                        refine step_read 34 104 rfl rfl (by kernel_rfl) (by kernel_rfl) (by kernel_rfl) (fun _ _ _ h => h) (by rfl) (v := ?_) (fun w hSw => ?_) (by assumption) ?_; rotate_left; (focus ((try dsimp only at hSw); go_simp; first | done | exact rfl)); simp only [List.set]
                        refine step_read 35 105 rfl rfl (by kernel_rfl) (by kernel_rfl) (by kernel_rfl) (fun _ _ _ h => h) (by rfl) (v := ?_) (fun w hSw => ?_) (by assumption) ?_; rotate_left; (focus ((try dsimp only at hSw); go_simp; first | done | exact rfl)); simp only [List.set]
                        refine wpAnyH_done (by kernel_rfl) ?_ _
                        have hb9 := (rr4_out (by assumption)).2
                        have HMf := Lib.hid (hM.out.grow hb9)
                        clear hb9
                        go_wp2_with fail
                        go_roundw
                        case rel => exact ⟨j + 1, (an : Int), by omega, rfl, by go_num, HMf, Lib.hid (hP.out.less (by show ¬ (dsT _ _ _ _ < dsT _ _ _ _); rw [← Hdj.out, ← Hda.out]; omega))⟩
                        case measure => simp [intOf]; omega
                      · go_simp
                        refine hK.out _ _ ?_ (fun hHeld => ?_)
                        · assumption
                        clear hK Kc
                        refine wpAnyH_ready (rs := [26]) (by kernel_rfl) (by simp) ?_
                        refine AllReadyH.cons rfl (fun Kc hK => ?_) (AllReadyH.nil)
                        go_simp
                        refine hK.out _ _ ?_ (fun hHeld => ?_)
                        · assumption
                        clear hK Kc
                        refine step_read 33 103 rfl rfl (by kernel_rfl) (by kernel_rfl) (by kernel_rfl) (fun _ _ _ h => h) (by rfl) (v := ?_) (fun w hSw => ?_) (by assumption) ?_; rotate_left; (focus ((try dsimp only at hSw); go_simp; first | done | exact rfl)); simp only [List.set]
                        refine step_read 34 104 rfl rfl (by kernel_rfl) (by kernel_rfl) (by kernel_rfl) (fun _ _ _ h => h) (by rfl) (v := ?_) (fun w hSw => ?_) (by assumption) ?_; rotate_left; (focus ((try dsimp only at hSw); go_simp; first | done | exact rfl)); simp only [List.set]
                        refine step_read 35 105 rfl rfl (by kernel_rfl) (by kernel_rfl) (by kernel_rfl) (fun _ _ _ h => h) (by rfl) (v := ?_) (fun w hSw => ?_) (by assumption) ?_; rotate_left; (focus ((try dsimp only at hSw); go_simp; first | done | exact rfl)); simp only [List.set]
                        refine wpAnyH_done (by kernel_rfl) ?_ _
                        have hb9 := (rr4_out (by assumption)).2
                        have HMf := Lib.hid (hM.out.grow hb9)
                        clear hb9
                        go_wp2_with fail
                        go_roundw
                        case rel => exact ⟨j + 1, (an : Int), by omega, rfl, by go_num, HMf, Lib.hid (hP.out.less (by show ¬ (dsT _ _ _ _ < dsT _ _ _ _); rw [← Hdj.out, ← Hda.out]; omega))⟩
                        case measure => simp [intOf]; omega
              · have d1 : decide (0 < Fj) = false := decide_eq_false h1
                go_wp2_with fail
                go_quiet (fail)
                go_wp2_with fail
                go_roundw
                case rel => exact ⟨j + 1, b, by omega, rfl, by go_num, Lib.hid (hM.out.grow (below_drewN _ _)), Lib.hid (hP.out.skip (fun _ _ => by rw [← HFj.out]; omega))⟩
                case measure => simp [intOf]; omega
        · obtain rfl : M = j := by omega
          have hge : ¬ ((M : Int) < (M : Int)) := by omega
          obtain ⟨wp, rfl⟩ : ∃ x : World, x = wr := ⟨_, rfl⟩
          by_cases ha : b < 0
          · have hb1 : b = -1 := by rcases hP.out with ⟨h, _⟩ | ⟨_, h, _⟩ <;> omega
            have e : tabI M F = tabI M (shN (M : Int) L (s : Int) (o : Int) a) := by
              congr 1
              funext y
              exact hI.out.fin HG.out ⟨by omega, by omega⟩ ⟨by omega, by omega⟩ Hso.out (by omega) HF.out (by rw [← hb1]; exact hP.out) y
            have HOe : Hid (OwnI wb wp (.slice (some ⟨wb.heap.size, 0, none⟩) M M) M (tabI M (shN (M : Int) L (s : Int) (o : Int) a))) := by
              rw [← e]
              exact Lib.hid ⟨hM.out.below, hM.out.row⟩
            clear e hb1
            go_wp2_with fail
            refine bodyPost_ret (v := .slice (some ⟨wb.heap.size, 0, none⟩) M M) (by simp [results, Try.results44, go_sem]) rfl ⟨_, rfl, ?_⟩
            rw [tabI_len]
            exact ⟨(HOe.out.toRow (by omega)).wider (by omega), HB.out.trans (HOe.out.below.mono (by omega))⟩
          · obtain ⟨x, rfl⟩ : ∃ x : Nat, b = (x : Int) := ⟨b.toNat, by omega⟩
            have hx : x < M := by rcases hP.out with ⟨h, _⟩ | ⟨_, h, h', _⟩ <;> omega
            have p2 : (0 : Int) ≤ (x : Int) := by omega
            have p3 : (x : Int) < (M : Int) := by omega
            have y1 := hM.out.bit hx
            have y2 := (hM.out.frz x).2
            have hne1 : gd ≠ w.heap.size := by have hq9 : wb.heap.size ≤ gd := (hM.out.mark.lt gd rfl).1; omega
            have hne2 : w.heap.size ≠ gd := by omega
            have HMD : Hid (SM wb (wp.setCell ⟨gd, x, none⟩ (.bool true)) M wb.heap.size gd F (fun q => if q = (x : Int) then true else X q)) := Lib.hid (hM.out.put x)
            have HIn := Lib.hid (hI.out.next hP.out)
            have HFb : Hid (∀ y, 0 ≤ F y ∧ F y ≤ 102400000) := Lib.hid (hI.out.bnd (by omega) ⟨by omega, by omega⟩ (by omega) ha2)
            obtain ⟨wq, hwq⟩ : ∃ q, q = wp.setCell ⟨gd, x, none⟩ (.bool true) := ⟨_, rfl⟩
            rw [← hwq] at HMD
            have HWQ := Lib.hid hwq
            clear hwq hM hI hP
            go_wp2_with fail
            rw [← HWQ.out]
            have hsq := HMD.out.below.size
            clear y1 y2 k0 k1 HWQ
            go_at_call 49
            refine (shop_any (M : Int) lo hi n _ L (x : Int) (o : Int) _ HL.out (HRb.out.below HMD.out.below hhb) (by omega)).mono ?_
            rintro e w7 ⟨hv, rfl, hrow, hb7⟩
            obtain ⟨Zh, hZh⟩ : ∃ Z, Z = hopsL (M : Int) L (x : Int) (o : Int) := ⟨_, rfl⟩
            rw [← hZh] at hrow
            have HZh := Lib.hid hZh
            obtain ⟨m, hm⟩ : ∃ m, m = Zh.length := ⟨_, rfl⟩
            have hm10 : m ≤ 10 := by rw [hm, hZh]; exact hopsL_ten _ _ _ _
            rw [← hm] at hrow
            have Hm := Lib.hid hm
            have hmem : Hid (∀ z ∈ Zh, (0 ≤ z ∧ z < (M : Int)) ∧ z ≠ (x : Int)) := by
              refine Lib.hid (fun z hz => ?_)
              rw [HZh.out] at hz
              have hf := (hopsL_mem hz).facts HG.out
              exact ⟨hf.2.1, fun e => by have := hf.2.2.1; rw [e] at this; omega⟩
            have hpw : Hid (Zh.Pairwise (fun a b => a ≠ b)) := by rw [HZh.out]; exact Lib.hid (hopsL_ne _ _ _ _)
            have Hrow := Lib.hid hrow
            obtain ⟨hga, hgc, hgv⟩ := hrow.slice
            subst hgv
            have HM7 : Hid (SM wb w7 M wb.heap.size gd (fun y => F y + gn (F (x : Int)) m 0 (Zh.take 0) y) (fun q => if q = (x : Int) then true else X q)) := by
              have e : (fun y => F y + gn (F (x : Int)) m 0 (Zh.take 0) y) = F := by funext y; show F y + 0 = F y; omega
              rw [e]
              exact Lib.hid (HMD.out.grow hb7)
            have hs7 := hb7.size
            have hgq := (HMD.out.row.lt _ rfl).2
            have HI7 : Hid (w7.grownBy w7 (some wb.heap.size)) := Lib.hid (grown_refl _ _)
            clear hZh hm hrow hb7 HMD
            go_wp2_with fail
            go_loopw [15] (fun i wi => ∃ j : Nat, j ≤ m ∧ i = .int .i64 (j : Int) ∧ Hid (w7.grownBy wi (some wb.heap.size)) ∧ Hid (SM wb wi M wb.heap.size gd (fun y => F y + gn (F (x : Int)) m 0 (Zh.take j) y) (fun q => if q = (x : Int) then true else X q))) (fun i _ => m - (intOf i).toNat)
            case atStart => exact ⟨0, Nat.zero_le _, rfl, HI7, HM7⟩
            case round =>
              obtain ⟨j, hj, rfl, hGi, hOi⟩ := hrel
              have hszi := hGi.out.size
              by_cases hjm : j < m
              · obtain ⟨z, hzj⟩ : ∃ z, Zh[j]? = some z := ⟨Zh[j]'(by have := Hm.out; omega), List.getElem?_eq_getElem _⟩
                obtain ⟨⟨hz0, hz1⟩, hzx⟩ := hmem.out z (List.mem_of_getElem? hzj)
                obtain ⟨gh, hv2, hgv, hgl, hgh, hgc2⟩ := row_cells (by omega) Hrow.out
                cases hgv
                have y0 : wr.cell? ⟨gh, j, none⟩ = some (.int .i64 z) := (World.cell?_of_block (a := ⟨gh, j, none⟩) (hGi.out.block gh hgh (fun e => by cases e; omega))).trans (hgc2 j z hzj)
                obtain ⟨y, hy⟩ : ∃ y : Nat, z = (y : Int) := ⟨z.toNat, by omega⟩
                subst hy
                have hyl : y < M := by omega
                have hbx := HFb.out (x : Int)
                have hby := HFb.out (y : Int)
                have hm0 : 0 < m := by omega
                have hpl := prt_le hbx.1 hm0 j
                have hpn := prt_nn hbx.1 m j
                have hgl2 := gn_le hbx.1 hm0 (y : Int) 0 (l := Zh.take j) (hpw.out.sublist (List.take_sublist _ _))
                have hgn2 := gn_nn hbx.1 m (y : Int) 0 (Zh.take j)
                have hx0 : gn (F (x : Int)) m 0 (Zh.take j) (x : Int) = 0 := gn_not _ _ _ _ _ (fun e => (hmem.out _ (List.mem_of_mem_take e)).2 rfl)
                have cx : wr.cell? ⟨wb.heap.size, x, none⟩ = some (.int .i64 (F (x : Int))) := by
                  have h := hOi.out.at hx
                  rw [hx0, Int.add_zero] at h
                  exact h
                have cy := hOi.out.at hyl
                have fy := (hOi.out.frz y).1
                obtain ⟨p, hp⟩ : ∃ p, p = prt (F (x : Int)) m j := ⟨_, rfl⟩
                obtain ⟨u, hu⟩ : ∃ u, u = F (y : Int) + gn (F (x : Int)) m 0 (Zh.take j) (y : Int) := ⟨_, rfl⟩
                rw [← hu] at cy
                have hwr2 : IntKind.i64.wrap (u + p) = u + p := by rw [IntKind.wrap_i64]; omega
                have HF2 : Hid (∀ w', Below wr.heap.size wr w' → SM wb (w'.setCell ⟨wb.heap.size, y, none⟩ (.int .i64 (u + p))) M wb.heap.size gd (fun y => F y + gn (F (x : Int)) m 0 (Zh.take (j + 1)) y) (fun q => if q = (x : Int) then true else X q)) := by
                  refine Lib.hid (fun w' hw' => ?_)
                  have h := (hOi.out.grow hw').set y (u + p)
                  have e : (fun r => if r = (y : Int) then u + p else F r + gn (F (x : Int)) m 0 (Zh.take j) r) = fun r => F r + gn (F (x : Int)) m 0 (Zh.take (j + 1)) r := by
                    funext r
                    rw [gn_take _ _ r Zh 0 j (y : Int) hzj, Nat.zero_add]
                    by_cases hr : r = (y : Int)
                    · rw [if_pos hr, if_pos hr, hr, hu, hp]; omega
                    · rw [if_neg hr, if_neg hr]; omega
                  rw [e] at h
                  exact h
                have HG2 : Hid (∀ w', Below wr.heap.size wr w' → w7.grownBy (w'.setCell ⟨wb.heap.size, y, none⟩ (.int .i64 (u + p))) (some wb.heap.size)) := by
                  refine Lib.hid (fun w' hw' => ?_)
                  have h1 : w7.grownBy w' (some wb.heap.size) := ⟨hw'.os.trans hGi.out.os, hw'.tape.trans hGi.out.tape, hw'.output.trans hGi.out.output, Nat.le_trans hGi.out.size hw'.size, fun b hb hn => (hw'.block b (by have := hGi.out.size; omega)).trans (hGi.out.block b hb hn)⟩
                  exact grown_set h1 y _
                obtain ⟨fx, hfx⟩ : ∃ q, q = F (x : Int) := ⟨_, rfl⟩
                rw [← hfx] at cx hp hbx
                have t1 : fx.tmod (m : Int) = fx % (m : Int) := Int.tmod_eq_emod_of_nonneg hbx.1
                have t2 : fx.tdiv (m : Int) = fx / (m : Int) := Int.tdiv_eq_ediv_of_nonneg hbx.1
                have hq0 := Int.ediv_nonneg hbx.1 (Int.natCast_nonneg m)
                have hq1 := prt_le hbx.1 hm0 j
                obtain ⟨q, hq⟩ : ∃ q, q = fx / (m : Int) := ⟨_, rfl⟩
                obtain ⟨r, hr⟩ : ∃ r, r = fx % (m : Int) := ⟨_, rfl⟩
                unfold prt at hp hq1
                rw [← hq, ← hr] at hp hq1
                rw [← hq] at hq0 t2
                rw [← hr] at t1
                have hmz : ¬ ((m : Int) = 0) := by omega
                have hmz2 : ((m : Int) == 0) = false := by simp; omega
                have hmz3 : ¬ (m = 0) := by omega
                have i0 : (0 : Int) ≤ (j : Int) := by omega
                have i1 : (j : Int) < (m : Int) := by omega
                have i4 : (0 : Int) ≤ (y : Int) := by omega
                have i5 : (y : Int) < (M : Int) := by omega
                have Hjm := Lib.hid hjm
                clear hzj hz0 hz1 hzx hgc2 hby hpl hpn hgl2 hgn2 hx0 hu hGi hOi hfx hq hr
                by_cases hjr : (j : Int) < r
                · rw [if_pos hjr] at hp hq1
                  subst hp
                  have hwq : IntKind.i64.wrap q = q := by rw [IntKind.wrap_i64]; omega
                  have hwq1 : IntKind.i64.wrap (q + 1) = q + 1 := by rw [IntKind.wrap_i64]; omega
                  clear hbx hq1 hq0
                  go_wp2_with fail
                  go_region
                  all_goals (focus (
                    have HOe := Lib.hid ((HF2.out wr (Below.refl _ _)).grow (below_drewN _ 1))
                    have hge := HG2.out wr (Below.refl _ _)
                    have HGe : Hid (w7.grownBy (wr.setCell ⟨wb.heap.size, y, none⟩ (.int .i64 (u + (q + 1)))).drew (some wb.heap.size)) := Lib.hid ⟨hge.os, hge.tape, hge.output, hge.size, hge.block⟩
                    clear hge cx cy fy
                    go_wp2_with fail
                    go_roundw
                    (case rel => exact ⟨j + 1, by have := Hjm.out; omega, by go_num, HGe, HOe⟩)
                    (case measure => have := Hjm.out; simp [intOf]; omega)))
                · rw [if_neg hjr, Int.add_zero] at hp hq1
                  subst hp
                  have hwq : IntKind.i64.wrap p = p := by rw [IntKind.wrap_i64]; omega
                  clear hbx hq1 hq0
                  go_wp2_with fail
                  go_region
                  all_goals (focus (
                    have HOe := Lib.hid ((HF2.out wr (Below.refl _ _)).grow (below_drewN _ 1))
                    have hge := HG2.out wr (Below.refl _ _)
                    have HGe : Hid (w7.grownBy (wr.setCell ⟨wb.heap.size, y, none⟩ (.int .i64 (u + (p)))).drew (some wb.heap.size)) := Lib.hid ⟨hge.os, hge.tape, hge.output, hge.size, hge.block⟩
                    clear hge cx cy fy
                    go_wp2_with fail
                    go_roundw
                    (case rel => exact ⟨j + 1, by have := Hjm.out; omega, by go_num, HGe, HOe⟩)
                    (case measure => have := Hjm.out; simp [intOf]; omega)))
              · obtain rfl : m = j := by omega
                have hge : ¬ ((m : Int) < (m : Int)) := by omega
                have HSo : Hid (SM wb wr M wb.heap.size gd (giv (fun x => hopsL (M : Int) L x (o : Int)) F (x : Int)) (fun q => if q = (x : Int) then true else X q)) := by
                  have e : (fun y => F y + gn (F (x : Int)) m 0 (Zh.take m) y) = giv (fun x => hopsL (M : Int) L x (o : Int)) F (x : Int) := by
                    funext y
                    show _ = F y + gn (F (x : Int)) (hopsL (M : Int) L (x : Int) (o : Int)).length 0 (hopsL (M : Int) L (x : Int) (o : Int)) y
                    rw [← HZh.out, ← Hm.out, List.take_of_length_le (by have := Hm.out; omega)]
                  rw [← e]
                  exact hOi
                clear hGi hOi
                go_wp2_with fail
                go_roundw
                case rel => exact ⟨k + 1, _, _, _, by omega, by go_num, HSo, HIn⟩
                case measure => simp [intOf]; omega

set_option maxRecDepth 100000 in
set_option maxHeartbeats 2400000 in
theorem ssh_no0 (N : Int) (lo hi n : Nat) (v : Value) (L : List Ed) (x y a : Int) (w : World) (_hL : L.length = n) (hr : Row 3 w lo hi v n (flat L)) (_hh : hi ≤ w.heap.size) (hn : inB a 1 100000 = false) :
    Calls Try.prog 44 #[.agg #[.int .i64 N, v], .int .i64 x, .int .i64 y, .int .i64 a] w (LiPost [] w) := by
  have Hn := Lib.hid hn
  obtain ⟨ad, cp, rfl⟩ := hr.slice
  clear hr hn
  go_enter Try.func44, Try.ntmps44
  go_wp2_with fail
  go_at_call 59
  refine (in_any a 1 100000 _).mono ?_
  rw [Hn.out]
  rintro e w' ⟨rfl, rfl⟩
  go_wp2_with fail
  go_ret
  exact ⟨_, rfl, Row.empty 1 _ _ _ _ _, by go_grown⟩

set_option maxRecDepth 100000 in
set_option maxHeartbeats 2400000 in
theorem ssh_no1 (N : Int) (lo hi n : Nat) (v : Value) (L : List Ed) (x y a : Int) (w : World) (hL : L.length = n) (hr : Row 3 w lo hi v n (flat L)) (hh : hi ≤ w.heap.size) (hn : inB a 1 100000 = true ∧ gok N L = false) :
    Calls Try.prog 44 #[.agg #[.int .i64 N, v], .int .i64 x, .int .i64 y, .int .i64 a] w (LiPost [] w) := by
  have HR := Lib.hid hr
  have Hn := Lib.hid hn
  obtain ⟨ad, cp, rfl⟩ := hr.slice
  clear hr hn
  go_enter Try.func44, Try.ntmps44
  go_wp2_with fail
  go_at_call 59
  refine (in_any a 1 100000 _).mono ?_
  rw [Hn.out.1]
  rintro e w' ⟨rfl, rfl⟩
  go_wp2_with fail
  go_at_call 47
  refine (sgok_any N lo hi n _ L _ hL (HR.out.below (B := w.heap.size) (by go_grown) (by omega)) (by simp; omega)).mono ?_
  rw [Hn.out.2]
  rintro e v1 ⟨rfl, hb1⟩
  have sz1 : w.heap.size + 1 ≤ v1.heap.size := by have hh := hb1.size; simp at hh; omega
  have st1 : Below w.heap.size w v1 := Below.trans (by go_grown) (hb1.mono (by simp))
  have c1_0 : v1.cell? ⟨w.heap.size, 0, none⟩ = some (.int .i64 N) := by rw [(bcell hb1).1 _ _ (by simp)]; first | (rw [new_at (by simp)]; rfl) | simp
  have c1_1 : v1.cell? ⟨w.heap.size, 1, none⟩ = some (.slice ad n cp) := by rw [(bcell hb1).1 _ _ (by simp)]; first | (rw [new_at (by simp)]; rfl) | simp
  have B1 : Hid (Below w.heap.size w v1) := st1
  have R1_0 : Hid (Row 3 v1 (lo) (hi) (.slice ad n cp) n (flat L)) := HR.out.below st1 (by omega)
  have d1_0 : w.heap.size < v1.heap.size := by omega
  have e1_0 : w.heap.size ≠ v1.heap.size := by omega
  clear st1 HR hb1
  go_wp2_with fail
  go_ret
  exact ⟨_, rfl, Row.empty 1 _ _ _ _ _, B1.out⟩

set_option maxRecDepth 100000 in
set_option maxHeartbeats 2400000 in
theorem ssh_no2 (N : Int) (lo hi n : Nat) (v : Value) (L : List Ed) (x y a : Int) (w : World) (hL : L.length = n) (hr : Row 3 w lo hi v n (flat L)) (hh : hi ≤ w.heap.size) (hn : inB a 1 100000 = true ∧ gok N L = true ∧ ndB N x = false) :
    Calls Try.prog 44 #[.agg #[.int .i64 N, v], .int .i64 x, .int .i64 y, .int .i64 a] w (LiPost [] w) := by
  have HR := Lib.hid hr
  have Hn := Lib.hid hn
  obtain ⟨ad, cp, rfl⟩ := hr.slice
  clear hr hn
  have hN1 := (gok_parts Hn.out.2.1).1
  have hN2 := (gok_parts Hn.out.2.1).2.1
  go_enter Try.func44, Try.ntmps44
  go_wp2_with fail
  go_at_call 59
  refine (in_any a 1 100000 _).mono ?_
  rw [Hn.out.1]
  rintro e w' ⟨rfl, rfl⟩
  go_wp2_with fail
  go_at_call 47
  refine (sgok_any N lo hi n _ L _ hL (HR.out.below (B := w.heap.size) (by go_grown) (by omega)) (by simp; omega)).mono ?_
  rw [Hn.out.2.1]
  rintro e v1 ⟨rfl, hb1⟩
  have sz1 : w.heap.size + 1 ≤ v1.heap.size := by have hh := hb1.size; simp at hh; omega
  have st1 : Below w.heap.size w v1 := Below.trans (by go_grown) (hb1.mono (by simp))
  have c1_0 : v1.cell? ⟨w.heap.size, 0, none⟩ = some (.int .i64 N) := by rw [(bcell hb1).1 _ _ (by simp)]; first | (rw [new_at (by simp)]; rfl) | simp
  have c1_1 : v1.cell? ⟨w.heap.size, 1, none⟩ = some (.slice ad n cp) := by rw [(bcell hb1).1 _ _ (by simp)]; first | (rw [new_at (by simp)]; rfl) | simp
  have B1 : Hid (Below w.heap.size w v1) := st1
  have R1_0 : Hid (Row 3 v1 (lo) (hi) (.slice ad n cp) n (flat L)) := HR.out.below st1 (by omega)
  have d1_0 : w.heap.size < v1.heap.size := by omega
  have e1_0 : w.heap.size ≠ v1.heap.size := by omega
  clear st1 HR hb1
  go_wp2_with fail
  go_at_call 48
  refine (node_any N _ _ _ x _ hN1 hN2).mono ?_
  rw [Hn.out.2.2]
  rintro e v2 ⟨rfl, hb2⟩
  have sz2 : v1.heap.size ≤ v2.heap.size := hb2.size
  have st2 : Below v1.heap.size v1 v2 := hb2
  have c2_0 : v2.cell? ⟨w.heap.size, 0, none⟩ = some (.int .i64 N) := by rw [(bcell st2).1 _ _ (by omega)]; exact c1_0
  have c2_1 : v2.cell? ⟨w.heap.size, 1, none⟩ = some (.slice ad n cp) := by rw [(bcell st2).1 _ _ (by omega)]; exact c1_1
  have B2 : Hid (Below w.heap.size w v2) := B1.out.trans (st2.mono (by omega))
  have R2_0 : Hid (Row 3 v2 (lo) (hi) (.slice ad n cp) n (flat L)) := R1_0.out.below st2 (by omega)
  have d2_0 : w.heap.size < v2.heap.size := by omega
  have e2_0 : w.heap.size ≠ v2.heap.size := by omega
  clear d1_0 e1_0 c1_0 c1_1 B1 st2 R1_0 hb2
  go_wp2_with fail
  go_ret
  exact ⟨_, rfl, Row.empty 1 _ _ _ _ _, B2.out⟩

set_option maxRecDepth 100000 in
set_option maxHeartbeats 2400000 in
theorem ssh_no3 (N : Int) (lo hi n : Nat) (v : Value) (L : List Ed) (x y a : Int) (w : World) (hL : L.length = n) (hr : Row 3 w lo hi v n (flat L)) (hh : hi ≤ w.heap.size) (hn : inB a 1 100000 = true ∧ gok N L = true ∧ ndB N x = true ∧ ndB N y = false) :
    Calls Try.prog 44 #[.agg #[.int .i64 N, v], .int .i64 x, .int .i64 y, .int .i64 a] w (LiPost [] w) := by
  have HR := Lib.hid hr
  have Hn := Lib.hid hn
  obtain ⟨ad, cp, rfl⟩ := hr.slice
  clear hr hn
  have hN1 := (gok_parts Hn.out.2.1).1
  have hN2 := (gok_parts Hn.out.2.1).2.1
  go_enter Try.func44, Try.ntmps44
  go_wp2_with fail
  go_at_call 59
  refine (in_any a 1 100000 _).mono ?_
  rw [Hn.out.1]
  rintro e w' ⟨rfl, rfl⟩
  go_wp2_with fail
  go_at_call 47
  refine (sgok_any N lo hi n _ L _ hL (HR.out.below (B := w.heap.size) (by go_grown) (by omega)) (by simp; omega)).mono ?_
  rw [Hn.out.2.1]
  rintro e v1 ⟨rfl, hb1⟩
  have sz1 : w.heap.size + 1 ≤ v1.heap.size := by have hh := hb1.size; simp at hh; omega
  have st1 : Below w.heap.size w v1 := Below.trans (by go_grown) (hb1.mono (by simp))
  have c1_0 : v1.cell? ⟨w.heap.size, 0, none⟩ = some (.int .i64 N) := by rw [(bcell hb1).1 _ _ (by simp)]; first | (rw [new_at (by simp)]; rfl) | simp
  have c1_1 : v1.cell? ⟨w.heap.size, 1, none⟩ = some (.slice ad n cp) := by rw [(bcell hb1).1 _ _ (by simp)]; first | (rw [new_at (by simp)]; rfl) | simp
  have B1 : Hid (Below w.heap.size w v1) := st1
  have R1_0 : Hid (Row 3 v1 (lo) (hi) (.slice ad n cp) n (flat L)) := HR.out.below st1 (by omega)
  have d1_0 : w.heap.size < v1.heap.size := by omega
  have e1_0 : w.heap.size ≠ v1.heap.size := by omega
  clear st1 HR hb1
  go_wp2_with fail
  go_at_call 48
  refine (node_any N _ _ _ x _ hN1 hN2).mono ?_
  rw [Hn.out.2.2.1]
  rintro e v2 ⟨rfl, hb2⟩
  have sz2 : v1.heap.size ≤ v2.heap.size := hb2.size
  have st2 : Below v1.heap.size v1 v2 := hb2
  have c2_0 : v2.cell? ⟨w.heap.size, 0, none⟩ = some (.int .i64 N) := by rw [(bcell st2).1 _ _ (by omega)]; exact c1_0
  have c2_1 : v2.cell? ⟨w.heap.size, 1, none⟩ = some (.slice ad n cp) := by rw [(bcell st2).1 _ _ (by omega)]; exact c1_1
  have B2 : Hid (Below w.heap.size w v2) := B1.out.trans (st2.mono (by omega))
  have R2_0 : Hid (Row 3 v2 (lo) (hi) (.slice ad n cp) n (flat L)) := R1_0.out.below st2 (by omega)
  have d2_0 : w.heap.size < v2.heap.size := by omega
  have e2_0 : w.heap.size ≠ v2.heap.size := by omega
  clear d1_0 e1_0 c1_0 c1_1 B1 st2 R1_0 hb2
  go_wp2_with fail
  go_at_call 48
  refine (node_any N _ _ _ y _ hN1 hN2).mono ?_
  rw [Hn.out.2.2.2]
  rintro e v3 ⟨rfl, hb3⟩
  have sz3 : v2.heap.size ≤ v3.heap.size := hb3.size
  have st3 : Below v2.heap.size v2 v3 := hb3
  have c3_0 : v3.cell? ⟨w.heap.size, 0, none⟩ = some (.int .i64 N) := by rw [(bcell st3).1 _ _ (by omega)]; exact c2_0
  have c3_1 : v3.cell? ⟨w.heap.size, 1, none⟩ = some (.slice ad n cp) := by rw [(bcell st3).1 _ _ (by omega)]; exact c2_1
  have B3 : Hid (Below w.heap.size w v3) := B2.out.trans (st3.mono (by omega))
  have R3_0 : Hid (Row 3 v3 (lo) (hi) (.slice ad n cp) n (flat L)) := R2_0.out.below st3 (by omega)
  have d3_0 : w.heap.size < v3.heap.size := by omega
  have e3_0 : w.heap.size ≠ v3.heap.size := by omega
  clear d2_0 e2_0 c2_0 c2_1 B2 st3 R2_0 hb3
  go_wp2_with fail
  go_ret
  exact ⟨_, rfl, Row.empty 1 _ _ _ _ _, B3.out⟩

set_option maxRecDepth 100000 in
set_option maxHeartbeats 2400000 in
theorem ssh_no4 (N : Int) (lo hi n : Nat) (v : Value) (L : List Ed) (x y a : Int) (w : World) (hL : L.length = n) (hr : Row 3 w lo hi v n (flat L)) (hh : hi ≤ w.heap.size) (hn : inB a 1 100000 = true ∧ gok N L = true ∧ ndB N x = true ∧ ndB N y = true ∧ dsT N L x y = Far) :
    Calls Try.prog 44 #[.agg #[.int .i64 N, v], .int .i64 x, .int .i64 y, .int .i64 a] w (LiPost [] w) := by
  have HR := Lib.hid hr
  have Hn := Lib.hid hn
  obtain ⟨ad, cp, rfl⟩ := hr.slice
  clear hr hn
  have hN1 := (gok_parts Hn.out.2.1).1
  have hN2 := (gok_parts Hn.out.2.1).2.1
  go_enter Try.func44, Try.ntmps44
  go_wp2_with fail
  go_at_call 59
  refine (in_any a 1 100000 _).mono ?_
  rw [Hn.out.1]
  rintro e w' ⟨rfl, rfl⟩
  go_wp2_with fail
  go_at_call 47
  refine (sgok_any N lo hi n _ L _ hL (HR.out.below (B := w.heap.size) (by go_grown) (by omega)) (by simp; omega)).mono ?_
  rw [Hn.out.2.1]
  rintro e v1 ⟨rfl, hb1⟩
  have sz1 : w.heap.size + 1 ≤ v1.heap.size := by have hh := hb1.size; simp at hh; omega
  have st1 : Below w.heap.size w v1 := Below.trans (by go_grown) (hb1.mono (by simp))
  have c1_0 : v1.cell? ⟨w.heap.size, 0, none⟩ = some (.int .i64 N) := by rw [(bcell hb1).1 _ _ (by simp)]; first | (rw [new_at (by simp)]; rfl) | simp
  have c1_1 : v1.cell? ⟨w.heap.size, 1, none⟩ = some (.slice ad n cp) := by rw [(bcell hb1).1 _ _ (by simp)]; first | (rw [new_at (by simp)]; rfl) | simp
  have B1 : Hid (Below w.heap.size w v1) := st1
  have R1_0 : Hid (Row 3 v1 (lo) (hi) (.slice ad n cp) n (flat L)) := HR.out.below st1 (by omega)
  have d1_0 : w.heap.size < v1.heap.size := by omega
  have e1_0 : w.heap.size ≠ v1.heap.size := by omega
  clear st1 HR hb1
  go_wp2_with fail
  go_at_call 48
  refine (node_any N _ _ _ x _ hN1 hN2).mono ?_
  rw [Hn.out.2.2.1]
  rintro e v2 ⟨rfl, hb2⟩
  have sz2 : v1.heap.size ≤ v2.heap.size := hb2.size
  have st2 : Below v1.heap.size v1 v2 := hb2
  have c2_0 : v2.cell? ⟨w.heap.size, 0, none⟩ = some (.int .i64 N) := by rw [(bcell st2).1 _ _ (by omega)]; exact c1_0
  have c2_1 : v2.cell? ⟨w.heap.size, 1, none⟩ = some (.slice ad n cp) := by rw [(bcell st2).1 _ _ (by omega)]; exact c1_1
  have B2 : Hid (Below w.heap.size w v2) := B1.out.trans (st2.mono (by omega))
  have R2_0 : Hid (Row 3 v2 (lo) (hi) (.slice ad n cp) n (flat L)) := R1_0.out.below st2 (by omega)
  have d2_0 : w.heap.size < v2.heap.size := by omega
  have e2_0 : w.heap.size ≠ v2.heap.size := by omega
  clear d1_0 e1_0 c1_0 c1_1 B1 st2 R1_0 hb2
  go_wp2_with fail
  go_at_call 48
  refine (node_any N _ _ _ y _ hN1 hN2).mono ?_
  rw [Hn.out.2.2.2.1]
  rintro e v3 ⟨rfl, hb3⟩
  have sz3 : v2.heap.size ≤ v3.heap.size := hb3.size
  have st3 : Below v2.heap.size v2 v3 := hb3
  have c3_0 : v3.cell? ⟨w.heap.size, 0, none⟩ = some (.int .i64 N) := by rw [(bcell st3).1 _ _ (by omega)]; exact c2_0
  have c3_1 : v3.cell? ⟨w.heap.size, 1, none⟩ = some (.slice ad n cp) := by rw [(bcell st3).1 _ _ (by omega)]; exact c2_1
  have B3 : Hid (Below w.heap.size w v3) := B2.out.trans (st3.mono (by omega))
  have R3_0 : Hid (Row 3 v3 (lo) (hi) (.slice ad n cp) n (flat L)) := R2_0.out.below st3 (by omega)
  have d3_0 : w.heap.size < v3.heap.size := by omega
  have e3_0 : w.heap.size ≠ v3.heap.size := by omega
  clear d2_0 e2_0 c2_0 c2_1 B2 st3 R2_0 hb3
  have hx : 0 ≤ x ∧ x < N := by
    have h := Hn.out.2.2.1
    unfold ndB at h
    rw [inB_iff] at h
    omega
  have e2 : ¬ (x = y) := fun e => by
    have h := Hn.out.2.2.2.2
    rw [← e, dsT_self Hn.out.2.1 hx] at h
    unfold Far at h
    omega
  have e1 : (x == y) = false := by simp [e2]
  have e3 : (x != y) = true := by simp [e2]
  have hnil : hopsL N L x y = [] := by
    unfold hopsL
    split
    · exact setL_nil (fun z => decide_eq_false (tgP_far Hn.out.2.1 Hn.out.2.2.2.2))
    · rfl
  have Hnil := Lib.hid hnil
  clear hnil hx
  go_wp2_with fail
  go_at_call 49
  refine (shop_any N lo hi n _ L x y _ hL R3_0.out (by omega)).mono ?_
  rintro e w7 ⟨hv, rfl, hrow, hb7⟩
  rw [Hnil.out] at hrow
  obtain ⟨ha, hc, rfl⟩ := hrow.slice
  have HB7 : Hid (Below w.heap.size w w7) := B3.out.trans (hb7.mono (by omega))
  clear hrow hb7
  go_wp2_with fail
  go_ret
  exact ⟨_, rfl, Row.empty 1 _ _ _ _ _, HB7.out⟩

theorem ssh_any (N : Int) (lo hi n : Nat) (v : Value) (L : List Ed) (x y a : Int) (w : World) (hL : L.length = n) (hr : Row 3 w lo hi v n (flat L)) (hh : hi ≤ w.heap.size) :
    Calls Try.prog 44 #[.agg #[.int .i64 N, v], .int .i64 x, .int .i64 y, .int .i64 a] w (LiPost (shL N L x y a) w) := by
  unfold shL
  by_cases h0 : inB a 1 100000 = true
  · have ha := h0
    rw [inB_iff] at ha
    by_cases hG : gok N L = true
    · by_cases hx : ndB N x = true
      · by_cases hy : ndB N y = true
        · by_cases hd : dsT N L x y = Far
          · rw [if_neg (fun h => h.1.2.2.2 hd)]
            exact ssh_no4 N lo hi n v L x y a w hL hr hh ⟨h0, hG, hx, hy, hd⟩
          · rw [if_pos ⟨⟨hG, hx, hy, hd⟩, ha.1, ha.2⟩]
            have hN := gok_parts hG
            obtain ⟨M, rfl⟩ : ∃ M : Nat, N = (M : Int) := ⟨N.toNat, by omega⟩
            unfold ndB at hx hy
            rw [inB_iff] at hx hy
            obtain ⟨s, rfl⟩ : ∃ s : Nat, x = (s : Int) := ⟨x.toNat, by omega⟩
            obtain ⟨o, rfl⟩ : ∃ o : Nat, y = (o : Int) := ⟨y.toNat, by omega⟩
            exact ssh_yes M lo hi n v L s o a w hL hr hh hG (by omega) (by omega) hd ha.1 ha.2
        · rw [if_neg (fun h => hy h.1.2.2.1)]
          exact ssh_no3 N lo hi n v L x y a w hL hr hh ⟨h0, hG, hx, by simpa using hy⟩
      · rw [if_neg (fun h => hx h.1.2.1)]
        exact ssh_no2 N lo hi n v L x y a w hL hr hh ⟨h0, hG, by simpa using hx⟩
    · rw [if_neg (fun h => hG h.1.1)]
      exact ssh_no1 N lo hi n v L x y a w hL hr hh ⟨h0, by simpa using hG⟩
  · rw [if_neg (fun h => h0 (by rw [inB_iff]; exact h.2))]
    exact ssh_no0 N lo hi n v L x y a w hL hr hh (by simpa using h0)
theorem shL_len (N : Int) (L : List Ed) (x y a : Int) : (shL N L x y a).length ≤ 10 := by
  unfold shL
  split
  · rename_i h
    have := (gok_parts h.1.1).2.1
    rw [tabI_len]
    omega
  · simp

end Go.Proofs.Ytjenjdhoblcohaa
