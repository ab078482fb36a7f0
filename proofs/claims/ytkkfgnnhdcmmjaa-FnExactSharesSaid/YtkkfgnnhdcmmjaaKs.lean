/- Sets of nodes as the data of maps. It imports no program. -/
import Derived.Lib.SlMapMerge
import Derived.Test.YtkkfgnnhdcmmjaaMf
namespace Go.Proofs.Ytkkfgnnhdcmmjaa
open Go.RowKit Go.Maps Go.WideShapes
open Go.ChangeMaps (mem_insert_iff)

/-- The datum holds the nodes of f, each with 'true'. -/
structure IsSetD (D : DataW Unit) (f : Int → Bool) : Prop where
  tidy : Tidy D
  ent : ∀ es, D = .map es → ∀ p ∈ es, ∃ x : Int, (0 ≤ x ∧ x < 10) ∧ p.1 = .int .i64 x
  has_ : ∀ x : Int, 0 ≤ x ∧ x < 10 → has D (.int .i64 x) = f x
  val : ∀ kl zd, has D kl = true → D.atKey kl zd = .lit (.bool true)
theorem IsSetD.empty : IsSetD (.map []) (fun _ => false) := ⟨tidy_empty, fun es h p hp => (by cases h; cases hp), fun _ _ => rfl, fun _ _ h => (by cases h)⟩
theorem IsSetD.key {D : DataW Unit} {f : Int → Bool} (h : IsSetD D f) (kl : Lit) (hk : has D kl = true) : ∃ x : Int, (0 ≤ x ∧ x < 10) ∧ kl = .int .i64 x := by
  obtain ⟨es, rfl, _⟩ := h.tidy
  rw [has_eq] at hk
  obtain ⟨p, hp, hs⟩ := List.any_eq_true.1 hk
  obtain ⟨x, hx, e⟩ := h.ent es rfl p hp
  exact ⟨x, hx, by rw [← WideAt.sameKey_eq hs, e]⟩
/-- The number of a key. -/
def kInt : Lit → Int
  | .int _ x => x
  | _ => 0
theorem isKey_int (x : Int) : WideAt.IsKeyLit (.int .i64 x) := by simp [WideAt.IsKeyLit]
theorem IsSetD.put {D : DataW Unit} {f : Int → Bool} (h : IsSetD D f) {x : Int} (hx : 0 ≤ x ∧ x < 10) : IsSetD (D.put (.int .i64 x) (.lit (.bool true))) (fun z => f z || decide (z = x)) where
  tidy := h.tidy.put (isKey_int x) _
  ent es he p hp := by
    obtain ⟨es0, rfl, _⟩ := h.tidy
    cases he
    rcases mem_insert_iff.1 hp with rfl | hp
    · exact ⟨x, hx, rfl⟩
    · exact h.ent es0 rfl p (List.mem_filter.1 hp).1
  has_ z hz := by
    by_cases e : z = x
    · subst e
      rw [has_put_same h.tidy.isMap (isKey_int z)]
      simp
    · rw [has_put_other (fun e' => e (by cases e'; rfl)), h.has_ z hz]
      simp [e]
  val kl zd hk := by
    by_cases e : kl = .int .i64 x
    · subst e
      exact atKey_put_same h.tidy.isMap (isKey_int x) _ _
    · rw [has_put_other e] at hk
      rw [atKey_put_other e]
      exact h.val kl zd hk
theorem tidy_foldPut : ∀ (es : List (Lit × DataW Unit)) (D : DataW Unit), Tidy D → (∀ p ∈ es, WideAt.IsKeyLit p.1) → Tidy (es.foldl (fun D p => D.put p.1 p.2) D)
  | [], _, h, _ => h
  | a :: r, D, h, hk => by
    rw [List.foldl_cons]
    exact tidy_foldPut r _ (h.put (hk a (by simp)) _) (fun p hp => hk p (List.mem_cons_of_mem _ hp))
theorem ents_foldPut : ∀ (es : List (Lit × DataW Unit)) (D : DataW Unit), IsMap D → (∀ l, D = .map l → ∀ p ∈ l, ∃ x : Int, (0 ≤ x ∧ x < 10) ∧ p.1 = .int .i64 x) → (∀ p ∈ es, ∃ x : Int, (0 ≤ x ∧ x < 10) ∧ p.1 = .int .i64 x) →
    ∀ l, es.foldl (fun D p => D.put p.1 p.2) D = .map l → ∀ p ∈ l, ∃ x : Int, (0 ≤ x ∧ x < 10) ∧ p.1 = .int .i64 x
  | [], _, _, h, _ => h
  | a :: r, D, hm, h, hk => by
    rw [List.foldl_cons]
    refine ents_foldPut r _ (hm.put _ _) (fun l hl p hp => ?_) (fun p hp => hk p (List.mem_cons_of_mem _ hp))
    obtain ⟨es0, rfl⟩ := hm
    cases hl
    rcases mem_insert_iff.1 hp with rfl | hp
    · exact hk a (by simp)
    · exact h es0 rfl p (List.mem_filter.1 hp).1
theorem IsSetD.merge {Dd Ds : DataW Unit} {fd fs : Int → Bool} (hd : IsSetD Dd fd) (hs : IsSetD Ds fs) : IsSetD (Lib.mergeD Dd Ds) (fun z => fd z || fs z) := by
  obtain ⟨es, rfl, hp⟩ := hs.tidy
  have hin := hs.ent es rfl
  have klit : ∀ p ∈ es, WideAt.IsKeyLit p.1 := fun p hpe => by
    obtain ⟨x, _, e⟩ := hin p hpe
    rw [e]
    exact isKey_int x
  have hH : ∀ k, has (Lib.mergeD Dd (.map es)) k = (has Dd k || has (.map es) k) := fun k => by
    show has (es.foldl (fun D p => D.put p.1 p.2) Dd) k = _
    rw [has_foldPut k es Dd hd.tidy.isMap klit, has_eq]
  refine ⟨tidy_foldPut es Dd hd.tidy klit, ents_foldPut es Dd hd.tidy.isMap hd.ent hin, fun x hx => ?_, fun kl zd hk => ?_⟩
  · rw [hH, hd.has_ x hx, hs.has_ x hx]
  · show (es.foldl (fun D p => D.put p.1 p.2) Dd).atKey kl zd = _
    rw [atKey_foldPut kl zd es Dd hd.tidy.isMap klit hp]
    cases hf : es.find? (fun p => p.1.sameKey kl) with
    | none =>
      have h0 : has (.map es) kl = false := by
        rw [has_eq]
        exact List.any_eq_false.2 (fun p hpe => by simpa using List.find?_eq_none.1 hf p hpe)
      rw [hH, h0, Bool.or_false] at hk
      exact hd.val kl zd hk
    | some p =>
      have h1 : has (.map es) kl = true := by
        rw [has_eq]
        exact List.any_eq_true.2 ⟨p, List.mem_of_find?_eq_some hf, List.find?_some (p := fun (q : Lit × DataW Unit) => q.1.sameKey kl) hf⟩
      have h2 : (DataW.map es).atKey kl zd = p.2 := by
        simp only [DataW.atKey]
        rw [hf]
      exact h2.symm.trans (hs.val kl zd h1)
theorem IsSetD.size_le {D : DataW Unit} {f : Int → Bool} (h : IsSetD D f) : size D ≤ 10 := by
  obtain ⟨es, rfl, hp⟩ := h.tidy
  have he := h.ent es rfl
  have h1 := nodup_bound 10 (es.map fun p => kInt p.1) (List.pairwise_map.2 (hp.imp_of_mem (fun {a b} ha hb hab e => by
    obtain ⟨x, _, ex⟩ := he a ha
    obtain ⟨y, _, ey⟩ := he b hb
    rw [ex, ey] at e
    have e' : x = y := e
    exact hab (by rw [ex, ey, e'])))) (fun z hz => by
    obtain ⟨p, hpe, rfl⟩ := List.mem_map.1 hz
    obtain ⟨x, hx, ex⟩ := he p hpe
    rw [ex]
    exact hx)
  rw [size_eq]
  simpa using h1

end Go.Proofs.Ytkkfgnnhdcmmjaa
