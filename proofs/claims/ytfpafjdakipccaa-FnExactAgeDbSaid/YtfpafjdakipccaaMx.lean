/- A key taken out of a map with integer keys. -/
import Derived.Test.YtfpafjdakipccaaMp
import Derived.Maps.OwnSet
namespace Go.Proofs.Ytfpafjdakipccaa
open Go.RowKit Go.MapKept


/-- What is left without x. -/
def dropM (f : Int → Option Value) (x : Int) : Int → Option Value := fun y => if y = x then none else f y
section
variable {P : Program} {w : World} {m : Nat} {f : Int → Option Value} {t kt et : TypeId}
theorem MapI.del (h : MapI w m f) (hm : P.underlying t = some (.map kt et)) (hd : P.underlying kt = some (.int .i64)) (x : Int) (ty : TypeId) :
    ∃ w', (Builtin.delete_ #[t, kt] ty #[.map (some m), .int .i64 x]).run P w = .ok (.tuple #[]) w' ∧ MapI w' m (dropM f x) ∧ Only m w w' := by
  obtain ⟨es, clock, hb, hs, h1, h2⟩ := h
  rcases MapI.find h1 h2 x with ⟨g0, g1, g2⟩ | ⟨j, e, g0, g1, g2, g3⟩
  · refine ⟨_, by simp [Builtin.delete_, run_underlying hm, MapKept.run_getObj_map hb, run_checkKey hd (key_int x), run_findKey hd g1, run_setObj_map _ hb, Result.andThen], ⟨_, _, (heap_set hb).1, hs, ?_, ?_⟩, only_set hb⟩
    · intro e he
      obtain ⟨y, hy, y0, y9, hf⟩ := h1 e he
      have : y ≠ x := fun q => by subst q; exact g2 e he hy
      exact ⟨y, hy, y0, y9, by unfold dropM; rw [if_neg this]; exact hf⟩
    · intro y u hu
      unfold dropM at hu
      by_cases q : y = x
      · rw [if_pos q] at hu; cases hu
      · rw [if_neg q] at hu; exact h2 y u hu
  · have hjl : j < es.toList.length := by have := (Array.getElem?_eq_some_iff.1 g2).1; simpa using this
    have hsub : (es.eraseIdxIfInBounds j).toList = es.toList.eraseIdx j := by
      unfold Array.eraseIdxIfInBounds
      rw [dif_pos (by simpa using hjl)]
      simp
    have hap := ((stamped_iff es clock).1 hs).2.2
    have hj : es.toList[j] = e := by
      have := (Array.getElem?_eq_some_iff.1 g2).2
      simpa using this
    have hne : ∀ e' ∈ es.toList.eraseIdx j, e' ∈ es.toList ∧ e'.key ≠ .int .i64 x := by
      intro e' he'
      obtain ⟨i, hi, hij, rfl⟩ := List.mem_eraseIdx_iff_getElem.1 he'
      refine ⟨List.getElem_mem _, fun q => ?_⟩
      rw [← g3, ← hj] at q
      rcases Nat.lt_or_gt_of_ne hij with h | h
      · exact List.pairwise_iff_getElem.1 hap i j hi hjl h q
      · exact List.pairwise_iff_getElem.1 hap j i hjl hi h q.symm
    refine ⟨_, by simp [Builtin.delete_, run_underlying hm, MapKept.run_getObj_map hb, run_checkKey hd (key_int x), run_findKey hd g1, run_setObj_map _ hb, Result.andThen], ⟨_, _, (heap_set hb).1, stamped_erase hs j, ?_, ?_⟩, only_set hb⟩
    · intro e' he'
      rw [hsub] at he'
      obtain ⟨i1, i2⟩ := hne e' he'
      obtain ⟨y, hy, y0, y9, hf⟩ := h1 e' i1
      have : y ≠ x := fun q => by subst q; exact i2 hy
      exact ⟨y, hy, y0, y9, by unfold dropM; rw [if_neg this]; exact hf⟩
    · intro y u hu
      unfold dropM at hu
      by_cases q : y = x
      · rw [if_pos q] at hu; cases hu
      · rw [if_neg q] at hu
        obtain ⟨e', he', hk, hv⟩ := h2 y u hu
        refine ⟨e', ?_, hk, hv⟩
        rw [hsub]
        obtain ⟨i, hi, rfl⟩ := List.mem_iff_getElem.1 he'
        refine List.mem_eraseIdx_iff_getElem.2 ⟨i, hi, fun e1 => ?_, rfl⟩
        subst e1
        rw [hj, g3] at hk
        exact q (by simpa using hk.symm)
end
section
variable {P : Program} (w : World) {ops : Array Oper} {rest : List Oper} {o : Oper} {a : Act} {Q : Exit → Act → World → Prop}
theorem wpList_delete_I (hg : o.guard = none) (m x : Operand) (t k : TypeId) (hop : o.op = Op.call { callee := Callee.builtin Builtin.delete, args := #[m, x], argTypes := #[t, k] })
    (et : TypeId) (ht : P.underlying t = some (.map k et)) (hd : P.underlying k = some (.int .i64)) (b : Nat) (f : Int → Option Value)
    (hm : a.eval m = .map (some b)) (hown : MapI w b f) (key : Int) (hx : a.eval x = .int .i64 key)
    (hK : ∀ w', MapI w' b (dropM f key) → Only b w w' → wpList P ops Q rest (a.put o.dst (.tuple #[])) w') : wpList P ops Q (o :: rest) a w := by
  refine wpList_plain hg fun K' hK' => ?_
  obtain ⟨w', hrun, r1, r2⟩ := hown.del ht hd key o.type
  unfold Oper.wp
  simp [execOp, hop, resolve, invoke, builtin, hm, hx, hrun, Result.andThen]
  exact hK' _ _ (hK w' r1 r2)
end

end Go.Proofs.Ytfpafjdakipccaa
