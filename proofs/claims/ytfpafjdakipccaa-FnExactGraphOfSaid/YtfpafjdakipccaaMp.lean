/- Maps with integer keys that the call itself makes; of whatever program. -/
import Derived.Test.YtfpafjdakipccaaGa
import Derived.Maps.Own
import Derived.Maps.OwnOps
import Derived.Maps.OwnSet
import Derived.MapKept
namespace Go.Proofs.Ytfpafjdakipccaa
open Go.RowKit Go.MapKept
def MapI (w : World) (m : Nat) (f : Int -> Option Value) : Prop :=
  ∃ es clock, w.heap[m]? = some (.map es clock) /\ Stamped es clock /\ (∀ e ∈ es.toList, ∃ x : Int, e.key = .int .i64 x /\ 0 <= x /\ x <= 9 /\ f x = some e.val) /\ ∀ x v, f x = some v -> ∃ e ∈ es.toList, e.key = .int .i64 x /\ e.val = v
theorem MapI.lt {w : World} {m : Nat} {f : Int -> Option Value} (h : MapI w m f) : m < w.heap.size := by
  obtain ⟨es, clock, h1, _⟩ := h
  exact (Array.getElem?_eq_some_iff.1 h1).1
theorem MapI.move {w w' : World} {m : Nat} {f : Int -> Option Value} (h : MapI w m f) (hk : w'.heap[m]? = w.heap[m]?) : MapI w' m f := by
  obtain ⟨es, clock, h1, h2⟩ := h
  exact ⟨es, clock, hk.trans h1, h2⟩
theorem MapI.made (w : World) : MapI (w.alloc (.map #[] 0)) w.heap.size (fun _ => none) :=
  ⟨#[], 0, (heap_alloc w _).1, stamped_empty 0, fun e he => by simp at he, fun x v h => by cases h⟩
section
variable {P : Program} {w : World} {m : Nat} {f : Int -> Option Value} {t kt et : TypeId} {z : Value}
theorem key_int (x : Int) : IsKey (.int .i64) (.int .i64 x) := rfl
theorem MapI.find {es : Array MapEntry} (h1 : ∀ e ∈ es.toList, ∃ x : Int, e.key = .int .i64 x /\ 0 <= x /\ x <= 9 /\ f x = some e.val) (h2 : ∀ x v, f x = some v -> ∃ e ∈ es.toList, e.key = .int .i64 x /\ e.val = v) (x : Int) :
    (f x = none /\ Instr.findNow (.int .i64) (.int .i64 x) es.toList 0 = some none /\ ∀ e ∈ es.toList, e.key ≠ .int .i64 x) ∨
    ∃ j e, f x = some e.val /\ Instr.findNow (.int .i64) (.int .i64 x) es.toList 0 = some (some (j, e.val)) /\ es[j]? = some e /\ e.key = .int .i64 x := by
  have hks : ∀ e ∈ es.toList, IsKey (.int .i64) e.key := fun e he => by obtain ⟨y, hy, _⟩ := h1 e he; rw [hy]; exact key_int y
  rcases findNow_spec (key_int x) es.toList 0 hks with ⟨g1, g2⟩ | ⟨j, e, g1, g2, g3⟩
  · refine .inl ⟨?_, g1, g2⟩
    cases hf : f x with
    | none => rfl
    | some v =>
      obtain ⟨e, he, hk, _⟩ := h2 x v hf
      exact absurd hk (g2 e he)
  · refine .inr ⟨j, e, ?_, by rw [g1, Nat.zero_add], by simpa using g2, g3⟩
    obtain ⟨y, hy, _, _, hf⟩ := h1 e (List.mem_of_getElem? g2)
    rw [g3] at hy
    obtain rfl : x = y := by simpa using hy
    exact hf
theorem MapI.look (h : MapI w m f) (hm : P.underlying t = some (.map kt et)) (hd : P.underlying kt = some (.int .i64)) (hz : (zeroValue et).run P w = .ok z w) (x : Int) (ok : Bool) :
    (Instr.lookup t (.map (some m)) (.int .i64 x) ok).run P w = .ok (if ok then .tuple #[(f x).getD z, .bool (f x).isSome] else (f x).getD z) w := by
  obtain ⟨es, clock, hb, _, h1, h2⟩ := h
  rcases MapI.find h1 h2 x with ⟨g0, g1, _⟩ | ⟨j, e, g0, g1, _⟩
  · cases ok <;> simp [Instr.lookup, run_underlying hm, MapKept.run_getObj_map hb, run_checkKey hd (key_int x), run_findKey hd g1, hz, g0, Result.andThen]
  · cases ok <;> simp [Instr.lookup, run_underlying hm, MapKept.run_getObj_map hb, run_checkKey hd (key_int x), run_findKey hd g1, g0, Result.andThen]
theorem only_set {o o' : Obj} (hb : w.heap[m]? = some o) : Only m w { w with heap := w.heap.setIfInBounds m o' } :=
  ⟨rfl, rfl, rfl, by simp, fun b hne => (heap_set hb).2 b hne⟩
def putM (f : Int -> Option Value) (x : Int) (v : Value) : Int -> Option Value := fun y => if y = x then some v else f y
theorem MapI.upd (h : MapI w m f) (hm : P.underlying t = some (.map kt et)) (hd : P.underlying kt = some (.int .i64)) (x : Int) (h0 : 0 <= x) (h9 : x <= 9) (v : Value) :
    ∃ w', (Instr.mapUpdate t (.map (some m)) (.int .i64 x) v).run P w = .ok () w' /\ MapI w' m (putM f x v) /\ Only m w w' := by
  obtain ⟨es, clock, hb, hs, h1, h2⟩ := h
  rcases MapI.find h1 h2 x with ⟨g0, g1, g2⟩ | ⟨j, e, g0, g1, g2, g3⟩
  · refine ⟨_, by simp [Instr.mapUpdate, run_underlying hm, MapKept.run_getObj_map hb, run_checkKey hd (key_int x), run_findKey hd g1, run_setObj_map _ hb, Result.andThen]; rfl, ⟨_, _, (heap_set hb).1, stamped_push hs g2, ?_, ?_⟩, only_set hb⟩
    · intro e he
      simp only [Array.toList_push, List.mem_append, List.mem_singleton] at he
      rcases he with he | rfl
      · obtain ⟨y, hy, y0, y9, hf⟩ := h1 e he
        refine ⟨y, hy, y0, y9, ?_⟩
        have : y ≠ x := fun q => by subst q; rw [g0] at hf; cases hf
        unfold putM; rw [if_neg this]; exact hf
      · exact ⟨x, rfl, h0, h9, by unfold putM; rw [if_pos rfl]⟩
    · intro y u hu
      unfold putM at hu
      simp only [Array.toList_push, List.mem_append, List.mem_singleton]
      by_cases q : y = x
      · subst q
        rw [if_pos rfl] at hu
        obtain rfl := Option.some.inj hu
        exact ⟨_, .inr rfl, rfl, rfl⟩
      · rw [if_neg q] at hu
        obtain ⟨e, he, hk⟩ := h2 y u hu
        exact ⟨e, .inl he, hk⟩
  · have hne : ∀ e' ∈ es.toList, e'.key = .int .i64 x -> es[j]? = some e' := fun e' he' hk => by
      obtain ⟨i, hi⟩ := List.mem_iff_getElem?.1 he'
      have hj : (es.toList)[j]? = some e := by simpa using g2
      have hnd := hs.2.2
      have hij : i = j := by
        have a1 : (es.toList.map (·.key))[i]? = some (.int .i64 x) := by rw [List.getElem?_map, hi]; exact congrArg some hk
        have a2 : (es.toList.map (·.key))[j]? = some (.int .i64 x) := by rw [List.getElem?_map, hj]; exact congrArg some g3
        exact (List.getElem?_inj (by exact (List.getElem?_eq_some_iff.1 a1).1) hnd).1 (a1.trans a2.symm)
      subst hij
      simpa using hi
    refine ⟨{ w with heap := w.heap.setIfInBounds m (.map (es.modify j fun e => { e with key := .int .i64 x, val := v }) clock) }, by simp [Instr.mapUpdate, run_underlying hm, MapKept.run_getObj_map hb, run_checkKey hd (key_int x), run_findKey hd g1, g2, g3, run_keyThatStays (key_int x), run_setObj_map _ hb, Result.andThen], ⟨_, _, (heap_set hb).1, stamped_modify hs j _ (fun _ _ => rfl) (fun e' _ he' => ?_), ?_, ?_⟩, only_set hb⟩
    · obtain rfl : e = e' := by rw [g2] at he'; exact Option.some.inj he'
      exact g3.symm
    · intro e' he'
      obtain ⟨i, hi⟩ := List.mem_iff_getElem?.1 he'
      rw [Array.getElem?_toList, Array.getElem?_modify] at hi
      by_cases q : j = i
      · subst q
        rw [if_pos rfl, g2] at hi
        obtain rfl := Option.some.inj hi
        exact ⟨x, rfl, h0, h9, by unfold putM; rw [if_pos rfl]⟩
      · rw [if_neg q] at hi
        have hmem : e' ∈ es.toList := List.mem_of_getElem? (by rw [Array.getElem?_toList]; exact hi)
        obtain ⟨y, hy, y0, y9, hf⟩ := h1 e' hmem
        refine ⟨y, hy, y0, y9, ?_⟩
        have : y ≠ x := fun r => by
          subst r
          have h3 := hne e' hmem hy
          have hnd := hs.2.1
          have hj : (es.toList)[j]? = some e' := by simpa using h3
          have hi2 : (es.toList)[i]? = some e' := by simpa using hi
          have a1 : (es.toList.map (·.born))[i]? = some e'.born := by rw [List.getElem?_map, hi2]; rfl
          have a2 : (es.toList.map (·.born))[j]? = some e'.born := by rw [List.getElem?_map, hj]; rfl
          exact q ((List.getElem?_inj (by exact (List.getElem?_eq_some_iff.1 a2).1) hnd).1 (a2.trans a1.symm))
        unfold putM; rw [if_neg this]; exact hf
    · intro y u hu
      unfold putM at hu
      by_cases q : y = x
      · subst q
        rw [if_pos rfl] at hu
        obtain rfl := Option.some.inj hu
        refine ⟨{ e with key := .int .i64 y, val := v }, List.mem_of_getElem? (i := j) ?_, rfl, rfl⟩
        rw [Array.getElem?_toList, Array.getElem?_modify, if_pos rfl, g2]
        rfl
      · rw [if_neg q] at hu
        obtain ⟨e', he', hk, hv⟩ := h2 y u hu
        obtain ⟨i, hi⟩ := List.mem_iff_getElem?.1 he'
        have hij : j ≠ i := fun r => by
          subst r
          have : es[j]? = some e' := by simpa using hi
          rw [g2] at this
          obtain rfl := Option.some.inj this
          rw [g3] at hk
          exact q (by simpa using hk.symm)
        refine ⟨e', List.mem_of_getElem? (i := i) ?_, hk, hv⟩
        rw [Array.getElem?_toList, Array.getElem?_modify, if_neg hij]
        simpa using hi
end
section
variable {P : Program} (w : World) {ops : Array Oper} {rest : List Oper} {o : Oper} {a : Act} {Q : Exit -> Act -> World -> Prop}
theorem wpList_mapUpdate_I (hg : o.guard = none) (m x v : Operand) (t : TypeId) (hop : o.op = Op.mapUpdate t m x v) (kt et : TypeId) (ht : P.underlying t = some (.map kt et)) (hd : P.underlying kt = some (.int .i64))
    (b : Nat) (f : Int -> Option Value) (hm : a.eval m = .map (some b)) (hown : MapI w b f) (key : Int) (hx : a.eval x = .int .i64 key) (h0 : 0 <= key) (h9 : key <= 9) (val : Value) (hv : a.eval v = val)
    (hK : ∀ w', MapI w' b (putM f key val) -> Only b w w' -> wpList P ops Q rest (a.put o.dst undef) w') : wpList P ops Q (o :: rest) a w := by
  refine wpList_plain hg fun K' hK' => ?_
  obtain ⟨w', hrun, r1, r2⟩ := hown.upd ht hd key h0 h9 val
  unfold Oper.wp
  simp [execOp, hop, hm, hx, hv, hrun, Result.andThen]
  exact hK' _ _ (hK w' r1 r2)
theorem wpList_lookup_I (hg : o.guard = none) (m x : Operand) (t : TypeId) (ok : Bool) (hop : o.op = Op.lookup t m x ok) (kt et : TypeId) (ht : P.underlying t = some (.map kt et)) (hd : P.underlying kt = some (.int .i64))
    (z : Value) (hz : (zeroValue et).run P w = .ok z w) (b : Nat) (f : Int -> Option Value) (hm : a.eval m = .map (some b)) (hown : MapI w b f) (key : Int) (hx : a.eval x = .int .i64 key)
    (r : Value) (hr : (if ok then .tuple #[(f key).getD z, .bool (f key).isSome] else (f key).getD z) = r)
    (hK : wpList P ops Q rest (a.put o.dst r) w) : wpList P ops Q (o :: rest) a w := by
  refine wpList_plain hg fun K' hK' => ?_
  have hrun := hown.look ht hd hz key ok
  rw [hr] at hrun
  unfold Oper.wp
  simp [execOp, hop, hm, hx, hrun, Result.andThen]
  exact hK' _ _ hK
end
end Go.Proofs.Ytfpafjdakipccaa
