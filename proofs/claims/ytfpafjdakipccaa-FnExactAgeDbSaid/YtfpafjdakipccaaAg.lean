/- A database made older: what is left, and whose is gone; maps of advertisements that lie anywhere. -/
import Derived.Test.YtfpafjdakipccaaMi
import Derived.Test.YtfpafjdakipccaaZ3
import Derived.Test.YtfpafjdakipccaaMx
import Derived.Test.YtfpafjdakipccaaCf
namespace Go.Proofs.Ytfpafjdakipccaa
open Go.RowKit


/-- An advertisement by so much older. -/
def ageL (by_ : Int) (l : Ls) : Ls := ⟨l.o, l.s, if 60 < l.g + by_ then 60 else l.g + by_, l.K, l.T⟩
def exl (l : Ls) : Bool := l.g == 60
/-- What is left of a database, and whose is gone. -/
def kept (by_ : Int) (D : List Ls) : List Ls := (D.map (ageL by_)).filter fun l => !exl l
def gon (by_ : Int) (D : List Ls) : List Int := ((D.map (ageL by_)).filter exl).map (·.o)
theorem kept_yes {by_ : Int} {D : List Ls} {k : Nat} {p : Ls} (h : D[k]? = some p) (hx : exl (ageL by_ p) = false) : kept by_ (D.take (k + 1)) = kept by_ (D.take k) ++ [ageL by_ p] := by
  unfold kept; rw [take_snocD h, List.map_append, List.filter_append]; simp [hx]
theorem kept_no {by_ : Int} {D : List Ls} {k : Nat} {p : Ls} (h : D[k]? = some p) (hx : exl (ageL by_ p) = true) : kept by_ (D.take (k + 1)) = kept by_ (D.take k) := by
  unfold kept; rw [take_snocD h, List.map_append, List.filter_append]; simp [hx]
theorem gon_yes {by_ : Int} {D : List Ls} {k : Nat} {p : Ls} (h : D[k]? = some p) (hx : exl (ageL by_ p) = true) : gon by_ (D.take (k + 1)) = gon by_ (D.take k) ++ [p.o] := by
  unfold gon; rw [take_snocD h, List.map_append, List.filter_append, List.map_append]
  have e : ([p].map (ageL by_)).filter exl = [ageL by_ p] := by simp [hx]
  rw [e]; rfl
theorem gon_no {by_ : Int} {D : List Ls} {k : Nat} {p : Ls} (h : D[k]? = some p) (hx : exl (ageL by_ p) = false) : gon by_ (D.take (k + 1)) = gon by_ (D.take k) := by
  unfold gon; rw [take_snocD h, List.map_append, List.filter_append, List.map_append]; simp [hx]
theorem gon_len (by_ : Int) (D : List Ls) : (gon by_ D).length ≤ D.length := by
  unfold gon; rw [List.length_map]; exact Nat.le_trans (List.length_filter_le _ _) (by rw [List.length_map]; exact Nat.le_refl _)
theorem kept_len (by_ : Int) (D : List Ls) : (kept by_ D).length ≤ D.length := by
  unfold kept; exact Nat.le_trans (List.length_filter_le _ _) (by rw [List.length_map]; exact Nat.le_refl _)
theorem ageL_ok {by_ : Int} {l : Ls} (h : l.ok = true) (h0 : 0 ≤ by_) : (ageL by_ l).ok = true := by
  have hb := Ls.ok_bd h
  unfold Ls.ok lokB at h ⊢
  simp only [Bool.and_eq_true] at h ⊢
  obtain ⟨⟨⟨⟨h1, h2⟩, _⟩, h4⟩, h5⟩ := h
  refine ⟨⟨⟨⟨h1, h2⟩, ?_⟩, h4⟩, h5⟩
  unfold ageL
  simp only
  split
  · exact inB_true (by omega) (by omega)
  · exact inB_true (by omega) (by omega)
theorem kept_mem {by_ : Int} {D : List Ls} {a : Ls} (h : a ∈ kept by_ D) : ∃ l ∈ D, a = ageL by_ l := by
  unfold kept at h
  obtain ⟨h1, _⟩ := List.mem_filter.1 h
  obtain ⟨l, hl, e⟩ := List.mem_map.1 h1
  exact ⟨l, hl, e.symm⟩
theorem kept_srt {by_ : Int} {D : List Ls} (h : Srt D) : Srt (kept by_ D) := by
  unfold Srt kept at *
  refine List.Pairwise.filter _ ?_
  rw [List.pairwise_map]
  exact h
/-- The database on the way: what is left of the first k, and the others. -/
def midD (by_ : Int) (D : List Ls) (k : Nat) : List Ls := kept by_ (D.take k) ++ D.drop k
theorem midD_zero (by_ : Int) (D : List Ls) : midD by_ D 0 = D := by unfold midD kept; simp
theorem midD_end {by_ : Int} {D : List Ls} {k : Nat} (h : D.length ≤ k) : midD by_ D k = kept by_ D := by
  unfold midD; rw [List.take_of_length_le h, List.drop_of_length_le h, List.append_nil]
theorem srt_take {D : List Ls} (h : Srt D) (k : Nat) : Srt (D.take k) := List.Pairwise.sublist (List.take_sublist k D) h
theorem srt_drop {D : List Ls} (h : Srt D) (k : Nat) : Srt (D.drop k) := List.Pairwise.sublist (List.drop_sublist k D) h
theorem srt_lt {D : List Ls} (h : Srt D) {k : Nat} {a b : Ls} (ha : a ∈ D.take k) (hb : b ∈ D.drop k) : a.o < b.o := by
  have e : D.Pairwise fun a b => a.o < b.o := h
  rw [← List.take_append_drop k D, List.pairwise_append] at e
  exact e.2.2 a ha b hb
theorem midD_ok {by_ : Int} {D : List Ls} (h : dokB D = true) (h0 : 0 ≤ by_) (k : Nat) : dokB (midD by_ D k) = true := by
  have hs := dokB_srt h
  refine srt_dokB ?_ fun l hl => ?_
  · unfold Srt midD
    rw [List.pairwise_append]
    refine ⟨kept_srt (srt_take hs k), srt_drop hs k, fun a ha b hb => ?_⟩
    obtain ⟨l, hl, rfl⟩ := kept_mem ha
    have := srt_lt hs hl hb
    exact this
  · unfold midD at hl
    rcases List.mem_append.1 hl with hl | hl
    · obtain ⟨q, hq, rfl⟩ := kept_mem hl
      exact ageL_ok (dokB_mem h (List.mem_of_mem_take hq)) h0
    · exact dokB_mem h (List.mem_of_mem_drop hl)
theorem drop_at {D : List Ls} {k : Nat} {p : Ls} (h : D[k]? = some p) : D.drop k = p :: D.drop (k + 1) := by
  obtain ⟨hk, e⟩ := List.getElem?_eq_some_iff.1 h
  rw [List.drop_eq_getElem_cons hk, e]
theorem find_none_of {A : List Ls} {x : Int} (h : ∀ a ∈ A, a.o ≠ x) : dfind A x = none := by
  unfold dfind
  rw [List.find?_eq_none]
  intro a ha
  simpa using h a ha
theorem dfind_app (A B : List Ls) (x : Int) : dfind (A ++ B) x = (dfind A x).or (dfind B x) := by unfold dfind; rw [List.find?_append]
theorem dfind_cons (p : Ls) (B : List Ls) (x : Int) : dfind (p :: B) x = if p.o = x then some p else dfind B x := by
  unfold dfind
  rw [List.find?_cons]
  by_cases e : p.o = x
  · rw [if_pos e]; simp [e]
  · rw [if_neg e]
    have : (p.o == x) = false := by rw [beq_eq_false_iff_ne]; exact e
    rw [this]
def dropF (F : Int → Option Ls) (x : Int) : Int → Option Ls := fun y => if y = x then none else F y
/-- The place of p takes the older one. -/
theorem midD_put {by_ : Int} {D : List Ls} {k : Nat} {p : Ls} (hs : Srt D) (h : D[k]? = some p) :
    putF (dfind (midD by_ D k)) (ageL by_ p) = dfind (kept by_ (D.take k) ++ ageL by_ p :: D.drop (k + 1)) := by
  funext x
  unfold putF midD
  rw [drop_at h, dfind_app, dfind_app, dfind_cons, dfind_cons]
  have ho : (ageL by_ p).o = p.o := rfl
  rw [ho]
  by_cases e : x = p.o
  · rw [if_pos e, if_pos e.symm, find_none_of (x := x)]
    · rfl
    · intro a ha
      obtain ⟨l, hl, rfl⟩ := kept_mem ha
      have := srt_lt hs hl (by rw [drop_at h]; exact List.mem_cons_self)
      have : (ageL by_ l).o = l.o := rfl
      omega
  · rw [if_neg e, if_neg (fun q => e q.symm), if_neg (fun q => e q.symm)]
theorem midD_yes {by_ : Int} {D : List Ls} {k : Nat} {p : Ls} (h : D[k]? = some p) (hx : exl (ageL by_ p) = false) : kept by_ (D.take k) ++ ageL by_ p :: D.drop (k + 1) = midD by_ D (k + 1) := by
  unfold midD; rw [kept_yes h hx]; simp
theorem midD_no {by_ : Int} {D : List Ls} {k : Nat} {p : Ls} (hs : Srt D) (h : D[k]? = some p) (hx : exl (ageL by_ p) = true) :
    dropF (dfind (kept by_ (D.take k) ++ ageL by_ p :: D.drop (k + 1))) p.o = dfind (midD by_ D (k + 1)) := by
  funext x
  unfold dropF midD
  rw [kept_no h hx, dfind_app, dfind_app, dfind_cons]
  have ho : (ageL by_ p).o = p.o := rfl
  rw [ho]
  by_cases e : x = p.o
  · rw [if_pos e, find_none_of (x := x), find_none_of (x := x)]
    · rfl
    · intro a ha
      have h1 : Srt (p :: D.drop (k + 1)) := by rw [← drop_at h]; exact srt_drop hs k
      have := (List.pairwise_cons.1 h1).1 a ha
      omega
    · intro a ha
      obtain ⟨l, hl, rfl⟩ := kept_mem ha
      have := srt_lt hs hl (by rw [drop_at h]; exact List.mem_cons_self)
      have : (ageL by_ l).o = l.o := rfl
      omega
  · rw [if_neg e, if_neg (fun q => e q.symm)]
def agok (D : List Ls) (by_ : Int) : Bool := dokB D && inB by_ 0 60
def agD (D : List Ls) (by_ : Int) : List Ls := if agok D by_ = true then kept by_ D else D
def agG (D : List Ls) (by_ : Int) : List Int := if agok D by_ = true then gon by_ D else []
theorem agV_ageL {by_ : Int} {l : Ls} (h : l.ok = true) (hb : inB by_ 0 60 = true) : agV l.o l.s l.g by_ l.K l.T = (ageL by_ l).g := by
  unfold agV agB
  have h' : lokB l.o l.s l.g l.K l.T = true := h
  rw [h', hb]
  rfl

/-! Maps of advertisements that lie anywhere. -/
theorem LRow.moveR {w w' : World} {lo hi n m : Nat} {u v : Value} {Y Z : List Int} (h : LRow w lo hi u v n m Y Z) (hk : ∀ b, lo ≤ b → b < hi → w'.heap[b]? = w.heap[b]?) : LRow w' lo hi u v n m Y Z := by
  obtain ⟨mid, m1, m2, r1, r2⟩ := h
  exact ⟨mid, m1, m2, r1.move fun b h1 h2 => hk b h1 (by omega), r2.move fun b h1 h2 => hk b (by omega) h2⟩
def ShF (w : World) (m : Nat) (og : Option Nat) (F : Int → Option Ls) (f : Int → Option Value) : Prop :=
  ∀ x, (F x = none ∧ f x = none) ∨ ∃ l u y lo hi, F x = some l ∧ f x = some (lsv l u y) ∧ LRow w lo hi u y l.K.length l.T.length (flat2 l.K) (flat l.T) ∧ hi ≤ w.heap.size ∧ (hi ≤ m ∨ m < lo) ∧ ∀ g, og = some g → (hi ≤ g ∨ g < lo)
def ShA (w : World) (m : Nat) (og : Option Nat) (F : Int → Option Ls) : Prop := ∃ f, MapI w m f ∧ ShF w m og F f
theorem ShA.of {w : World} {m B : Nat} {F : Int → Option Ls} (h : Shelf w m B F) : ShA w m none F := by
  have hl := h.lt
  obtain ⟨h0, f, h1, h2⟩ := h
  refine ⟨f, h1, fun x => ?_⟩
  rcases h2 x with h3 | ⟨l, u, y, lo, hi, e1, e2, r, hB⟩
  · exact .inl h3
  · exact .inr ⟨l, u, y, lo, hi, e1, e2, r, by omega, .inl (by omega), fun g hg => by cases hg⟩
theorem ShA.lt {w : World} {m : Nat} {og : Option Nat} {F : Int → Option Ls} (h : ShA w m og F) : m < w.heap.size := by
  obtain ⟨f, h1, _⟩ := h
  exact h1.lt
theorem ShF.grow {w w' : World} {m : Nat} {og : Option Nat} {F : Int → Option Ls} {f : Int → Option Value} (h : ShF w m og F f) (hb : Below w.heap.size w w') : ShF w' m og F f := fun x => by
  rcases h x with h3 | ⟨l, u, y, lo, hi, e1, e2, r, h4, h5, h6⟩
  · exact .inl h3
  · exact .inr ⟨l, u, y, lo, hi, e1, e2, r.below hb h4, Nat.le_trans h4 hb.size, h5, h6⟩
theorem ShA.grow {w w' : World} {m : Nat} {og : Option Nat} {F : Int → Option Ls} (h : ShA w m og F) (hb : Below w.heap.size w w') : ShA w' m og F := by
  have hl := h.lt
  obtain ⟨f, h1, h2⟩ := h
  exact ⟨f, h1.move (hb.block m hl), h2.grow hb⟩
/-- The slice of those that are gone grows: it may turn its own block. -/
theorem ShA.app {w w' : World} {m : Nat} {og og' : Option Nat} {F : Int → Option Ls} (h : ShA w m og F) (hz : w.heap.size ≤ w'.heap.size) (hk : ∀ b, b < w.heap.size → og ≠ some b → w'.heap[b]? = w.heap[b]?) (hm : og ≠ some m)
    (hg : ∀ g, og' = some g → og = some g ∨ w.heap.size ≤ g) : ShA w' m og' F := by
  have hl := h.lt
  obtain ⟨f, h1, h2⟩ := h
  refine ⟨f, h1.move (hk m hl hm), fun x => ?_⟩
  rcases h2 x with h3 | ⟨l, u, y, lo, hi, e1, e2, r, h4, h5, h6⟩
  · exact .inl h3
  · refine .inr ⟨l, u, y, lo, hi, e1, e2, r.moveR fun b b1 b2 => hk b (by omega) fun q => ?_, by omega, h5, fun g hq => ?_⟩
    · have := h6 b q; omega
    · rcases hg g hq with q | q
      · exact h6 g q
      · exact .inl (by omega)
theorem ShF.put {w w' : World} {m lo hi : Nat} {og : Option Nat} {F : Int → Option Ls} {f : Int → Option Value} {l : Ls} {u y : Value} (h2 : ShF w m og F f)
    (ho : Only m w w') (hr : LRow w lo hi u y l.K.length l.T.length (flat2 l.K) (flat l.T)) (h4 : hi ≤ w.heap.size) (h5 : m < lo) (h6 : ∀ g, og = some g → g < lo) : ShF w' m og (putF F l) (putM f l.o (lsv l u y)) := fun x => by
  have hz := ho.2.2.2.1
  unfold putF putM
  by_cases e : x = l.o
  · rw [if_pos e, if_pos e]
    exact .inr ⟨l, u, y, lo, hi, rfl, rfl, hr.moveR fun b b1 b2 => ho.2.2.2.2 b (by omega), by omega, .inr h5, fun g hg => .inr (h6 g hg)⟩
  · rw [if_neg e, if_neg e]
    rcases h2 x with h3 | ⟨l', u', y', lo', hi', e1, e2, r, q4, q5, q6⟩
    · exact .inl h3
    · exact .inr ⟨l', u', y', lo', hi', e1, e2, r.moveR fun b b1 b2 => ho.2.2.2.2 b (by omega), by omega, q5, q6⟩
theorem ShF.del {w w' : World} {m : Nat} {og : Option Nat} {F : Int → Option Ls} {f : Int → Option Value} {x : Int} (h2 : ShF w m og F f) (ho : Only m w w') : ShF w' m og (dropF F x) (dropM f x) := fun y => by
  have hz := ho.2.2.2.1
  unfold dropF dropM
  by_cases e : y = x
  · rw [if_pos e, if_pos e]; exact .inl ⟨rfl, rfl⟩
  · rw [if_neg e, if_neg e]
    rcases h2 y with h3 | ⟨l', u', y', lo', hi', e1, e2, r, q4, q5, q6⟩
    · exact .inl h3
    · exact .inr ⟨l', u', y', lo', hi', e1, e2, r.moveR fun b b1 b2 => ho.2.2.2.2 b (by omega), by omega, q5, q6⟩
/-- Two boxes, and what lay before. -/
structure Ag2 (w wr : World) (va : Value) : Prop where
  c0 : wr.cell? ⟨w.heap.size, 0, none⟩ = some va
  r : wr.cell? ⟨w.heap.size + 1, 0, none⟩ = some (.slice none 0 0)
  f : wr.frozen? ⟨w.heap.size + 1, 0, none⟩ = false
  size : w.heap.size + 2 ≤ wr.heap.size
  below : Below w.heap.size w wr
theorem Ag2.next {w wr w2 : World} {va : Value} (h : Ag2 w wr va) (hb : Below (w.heap.size + 2) wr w2) : Ag2 w w2 va :=
  ⟨by rw [hb.cell (p := ⟨w.heap.size, 0, none⟩) (by show w.heap.size < _; omega)]; exact h.c0,
   by rw [hb.cell (p := ⟨w.heap.size + 1, 0, none⟩) (by show w.heap.size + 1 < _; omega)]; exact h.r,
   by rw [hb.frozen (p := ⟨w.heap.size + 1, 0, none⟩) (by show w.heap.size + 1 < _; omega)]; exact h.f,
   Nat.le_trans h.size hb.size, h.below.trans (hb.mono (by omega))⟩
section
variable {P : Program} (w : World) {ops : Array Oper} {o : Oper} {a : Act} {K : Act → World → Prop} {Q : Exit → Act → World → Prop} {E : Prop}
theorem step_mapUpdate_I (hg : o.guard = none) (m x v : Operand) (t : TypeId) (hop : o.op = Op.mapUpdate t m x v) (kt et : TypeId) (ht : P.underlying t = some (.map kt et)) (hd : P.underlying kt = some (.int .i64))
    (b : Nat) (f : Int → Option Value) (hm : a.eval m = .map (some b)) (hown : MapI w b f) (key : Int) (hx : a.eval x = .int .i64 key) (h0 : 0 ≤ key) (h9 : key ≤ 9) (val : Value) (hv : a.eval v = val)
    (hK : ∀ w', MapI w' b (putM f key val) → Only b w w' → K (a.put o.dst undef) w') : if Region.wanted o (yielded ops a.tmps) = true then Oper.wp P o a w K Q else E := by
  have hw : Region.wanted o (yielded ops a.tmps) = true := by simp [Region.wanted, hg]
  rw [if_pos hw]
  obtain ⟨w', hrun, r1, r2⟩ := hown.upd ht hd key h0 h9 val
  unfold Oper.wp
  simp [execOp, hop, hm, hx, hv, hrun, Result.andThen]
  exact hK w' r1 r2
end

end Go.Proofs.Ytfpafjdakipccaa
