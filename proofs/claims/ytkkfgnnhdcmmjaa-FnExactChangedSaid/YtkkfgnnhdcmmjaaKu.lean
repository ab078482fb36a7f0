/- Two sets held against each other. -/
import Derived.Shelf.SlMaps.Equal
import Derived.Test.YtkkfgnnhdcmmjaaKm
namespace Go.Proofs.Ytkkfgnnhdcmmjaa
open Go.RowKit


open Go.Maps Go.Shelf
/-- The data of two elements held against each other. -/
def eqb : DataW Unit → DataW Unit → Bool
  | .lit (.bool a), .lit (.bool b) => a == b
  | _, _ => false
theorem keys_setL {es : List (Lit × DataW Unit)} {f : Int → Bool} (h : IsSetD (.map es) f) : (es.map fun p => kInt p.1).mergeSort (fun x y => decide (x ≤ y)) = setL f := by
  obtain ⟨es', e, hp⟩ := h.tidy
  cases e
  have he := h.ent es rfl
  refine sort_setL (List.pairwise_map.2 (hp.imp_of_mem (fun {a b} ha hb hab e => ?_))) (fun x => ?_)
  · obtain ⟨x, _, ex⟩ := he a ha
    obtain ⟨y, _, ey⟩ := he b hb
    rw [ex, ey] at e
    have e' : x = y := e
    exact hab (by rw [ex, ey, e'])
  · rw [List.mem_map]
    constructor
    · rintro ⟨p, hpe, rfl⟩
      obtain ⟨x, hx, ex⟩ := he p hpe
      rw [ex]
      refine ⟨hx, ?_⟩
      show f x = true
      rw [← h.has_ x hx, has_eq]
      exact List.any_eq_true.2 ⟨p, hpe, by rw [ex]; exact WideAt.sameKey_self (isKey_int x)⟩
    · rintro ⟨hx, hf⟩
      rw [← h.has_ x hx, has_eq] at hf
      obtain ⟨p, hpe, hs⟩ := List.any_eq_true.1 hf
      exact ⟨p, hpe, by rw [WideAt.sameKey_eq hs]; rfl⟩
theorem size_setL {D : DataW Unit} {f : Int → Bool} (h : IsSetD D f) : size D = (setL f).length := by
  obtain ⟨es, rfl, _⟩ := h.tidy
  rw [← keys_setL h, size_eq, (List.mergeSort_perm _ _).length_eq, List.length_map]
theorem setL_sub {f g : Int → Bool} (h : ∀ x, 0 ≤ x ∧ x < 10 → f x = true → g x = true) (hl : (setL f).length = (setL g).length) : setL f = setL g := by
  have e : setL f = (setL g).filter f := by
    unfold setL
    rw [List.filter_filter]
    refine List.filter_congr (fun x hx => ?_)
    have hx' : 0 ≤ x ∧ x < 10 := by
      obtain ⟨i, hi, rfl⟩ := List.mem_map.1 hx
      rw [List.mem_range] at hi
      omega
    cases hf : f x with
    | false => rfl
    | true => simp [h x hx' hf]
  exact (e ▸ List.filter_sublist : (setL f).Sublist (setL g)).eq_of_length hl
theorem equal_setL {D1 D2 : DataW Unit} {f g : Int → Bool} (h1 : IsSetD D1 f) (h2 : IsSetD D2 g) : Lib.equalFuncD eqb D1 D2 = decide (setL f = setL g) := by
  have hs1 := size_setL h1
  have hs2 := size_setL h2
  obtain ⟨es, rfl, hp⟩ := h1.tidy
  have he := h1.ent es rfl
  have hgood : ∀ p ∈ es, Lib.goodD eqb D2 p = has D2 p.1 := fun p hpe => by
    obtain ⟨x, hx, ex⟩ := he p hpe
    have hk : has (.map es) p.1 = true := List.any_eq_true.2 ⟨p, hpe, by rw [ex]; exact WideAt.sameKey_self (isKey_int x)⟩
    have hv : p.2 = .lit (.bool true) := (WideAt.atKey_mem .nil (by rw [ex]; exact isKey_int x) hp hpe).symm.trans (h1.val _ .nil hk)
    unfold Lib.goodD
    cases hh : has D2 p.1 with
    | false => rfl
    | true => rw [hv, h2.val _ .nil hh]; rfl
  apply Bool.eq_iff_iff.2
  unfold Lib.equalFuncD
  rw [Bool.and_eq_true, decide_eq_true_iff, decide_eq_true_iff, hs1, hs2]
  constructor
  · rintro ⟨hl, ha⟩
    refine setL_sub (fun x hx hf => ?_) hl
    rw [← h1.has_ x hx, has_eq] at hf
    obtain ⟨p, hpe, hs⟩ := List.any_eq_true.1 hf
    have h3 := List.all_eq_true.1 ha p hpe
    rw [hgood p hpe, WideAt.sameKey_eq hs, h2.has_ x hx] at h3
    exact h3
  · intro e
    refine ⟨by rw [e], List.all_eq_true.2 (fun p hpe => ?_)⟩
    obtain ⟨x, hx, ex⟩ := he p hpe
    rw [hgood p hpe, ex, h2.has_ x hx]
    have hfx : f x = true := by
      rw [← h1.has_ x hx, has_eq]
      exact List.any_eq_true.2 ⟨p, hpe, by rw [ex]; exact WideAt.sameKey_self (isKey_int x)⟩
    have := (mem_setL (f := f)).2 ⟨hx, hfx⟩
    rw [e] at this
    exact (mem_setL.1 this).2
def Try.equal70_ren : Go.Shelf.Ren := ⟨fun | 6 => 70 | n => n, fun | 23 => 76 | 24 => 76 | 26 => 3 | 27 => 4 | 4 => 4 | 3 => 3 | 0 => 0 | 36 => 107 | n => n, fun | n => n⟩
theorem Try.equal70 : Go.Proofs.SlLaysEq.n6 Try.prog Try.equal70_ren := {
  mixed := by kernel_rfl
  f6 := ⟨Try.f70.name, by decide, Try.func70.trans (congrArg some (by kernel_rfl))⟩
  t0 := Try.underlying0
  a0 := Try.isAgg0
  z0 := Try.sizeOf0
  v0 := Try.zeroValue0
  t3 := Try.underlying3
  a3 := Try.isAgg3
  z3 := Try.sizeOf3
  v3 := Try.zeroValue3
  t4 := Try.underlying4
  a4 := Try.isAgg4
  z4 := Try.sizeOf4
  v4 := Try.zeroValue4
  t23 := Try.underlying76
  a23 := Try.isAgg76
  z23 := Try.sizeOf76
  v23 := Try.zeroValue76
  t24 := Try.underlying76
  a24 := Try.isAgg76
  z24 := Try.sizeOf76
  v24 := Try.zeroValue76
  a26 := Try.isAgg3
  z26 := Try.sizeOf3
  a27 := Try.isAgg4
  z27 := Try.sizeOf4
  t36 := Try.underlying107
  a36 := Try.isAgg107
  z36 := Try.sizeOf107 }

set_option maxRecDepth 100000 in
theorem elem_two {v : Value} {z : DataW Unit × List MemPlace} (h : plainElem Try.prog 4 v = some z) : ∃ c, v = .bool c ∧ z.1 = .lit (.bool c) := by
  obtain ⟨c, rfl⟩ := elem_bool h
  have := plainElem_bool (H := Unit) Try.underlying4 c
  rw [h] at this
  cases this
  exact ⟨c, rfl, rfl⟩
set_option maxRecDepth 100000 in
theorem equal_any (b1 b2 n1 n2 : Nat) (f g : Int → Bool) (w : World) (h1 : SetAt w b1 n1 f) (h2 : SetAt w b2 n2 g) :
    Calls Try.prog 70 #[.map (some b1), .map (some b2)] w fun e w' => e = .returned (.bool (decide (setL f = setL g))) ∧ Below w.heap.size w w' := by
  obtain ⟨D1, o1, s1⟩ := h1
  obtain ⟨D2, o2, s2⟩ := h2
  have h := AnyEq.maps_Equal (H := Unit) Try.equal70 KI (plainElem Try.prog 4) (plainElem Try.prog 4) eqb b1 b2 n1 n2 D1 D2 w o1 o2 (.bool false) (fun w => Try.zeroValue4 w) (.lit (.bool false)) [] (plainElem_bool Try.underlying4 false) (fun W x y xd yd xp yp hx hy => by
    obtain ⟨c, rfl, e1⟩ := elem_two hx
    obtain ⟨d, rfl, e2⟩ := elem_two hy
    simp only at e1 e2
    subst e1
    subst e2
    cases c <;> cases d <;> exact ⟨run_neq_bool _ _ _ _ Try.underlying4, fun a b => by simp [go_sem, eqGuard]⟩)
  change Calls Try.prog 70 _ _ _ at h
  refine h.mono ?_
  rintro e w' ⟨rfl, hg⟩
  exact ⟨by rw [equal_setL s1 s2], below_gr hg (Nat.le_refl _) (fun k e => by cases e)⟩

end Go.Proofs.Ytkkfgnnhdcmmjaa
