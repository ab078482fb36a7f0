/- Prefix.has and the search for the best route, of the program. -/
import Derived.Test.YtgdnfglhlpnooaaBk
import Derived.Test.YtgdnfglhlpnooaaTi
import Derived.Test.YtgdnfglhlpnooaaWx
namespace Go.Proofs.Ytgdnfglhlpnooaa
open Go.RowKit Go.Shelf

set_option maxHeartbeats 1000000 in
theorem has_any (net n a : Int) (w : World) (h0 : 0 ≤ n) (h1 : n ≤ 16) (h2 : 0 ≤ net) (h3 : net ≤ 65535) :
    Calls Try.prog 96 #[.agg #[.int .i64 net, .int .i64 n], .int .i64 a] w fun e w' => e = .returned (.bool (inB a net (net + psz n - 1))) ∧ Below w.heap.size w w' := by
  by_cases ha : net ≤ a
  · by_cases hb : a ≤ net + psz n - 1
    · rw [inB_true ha hb]
      have hd : decide (a ≤ net + psz n - 1) = true := decide_eq_true hb
      go_enter Try.func96, Try.ntmps96
      go_wp2_with fail
      go_at_call 126
      refine (last_any net n _ h0 h1 h2 h3).mono ?_
      rintro e w3 ⟨rfl, hb3⟩
      have hB := unbox hb3
      clear hb3
      go_wp2_with fail
      go_ret
      exact ⟨rfl, hB⟩
    · rw [inB_false (by omega)]
      have hd : decide (a ≤ net + psz n - 1) = false := decide_eq_false hb
      go_enter Try.func96, Try.ntmps96
      go_wp2_with fail
      go_at_call 126
      refine (last_any net n _ h0 h1 h2 h3).mono ?_
      rintro e w3 ⟨rfl, hb3⟩
      have hB := unbox hb3
      clear hb3
      go_wp2_with fail
      go_ret
      exact ⟨rfl, hB⟩
  · rw [inB_false (by omega)]
    have hd : decide (net ≤ a) = false := decide_eq_false ha
    go_enter Try.func96, Try.ntmps96
    go_wp2_with fail
    go_ret
    exact ⟨rfl, by go_grown⟩

attribute [local go_sem] Oper.semAt_some

/-- A block of cells, whole. -/
def BlkB (W : World) (B : Nat) (cs : Array Value) (t : TypeId) : Prop := W.heap[B]? = some (.cells cs t (0, 0))
theorem BlkB.lt {W : World} {B : Nat} {cs : Array Value} {t : TypeId} (h : BlkB W B cs t) : B < W.heap.size := (Array.getElem?_eq_some_iff.1 h).1
theorem BlkB.new (W : World) (cs : Array Value) (t : TypeId) : BlkB (W.alloc (.cells cs t)) W.heap.size cs t := World.alloc_heap_new W _
theorem BlkB.alloc {W : World} {B : Nat} {cs : Array Value} {t : TypeId} (h : BlkB W B cs t) (o : Obj) : BlkB (W.alloc o) B cs t := (Below.heap_alloc W o B h.lt).trans h
theorem BlkB.below {N : Nat} {W W' : World} {B : Nat} {cs : Array Value} {t : TypeId} (h : BlkB W B cs t) (hb : Below N W W') (hN : B < N) : BlkB W' B cs t := (hb.block B hN).trans h
theorem BlkB.cell {W : World} {B : Nat} {cs : Array Value} {t : TypeId} (h : BlkB W B cs t) (o : Nat) : W.cell? ⟨B, o, none⟩ = cs[o]? := by simp [World.cell?, show W.heap[B]? = _ from h]
theorem BlkB.frozen {W : World} {B : Nat} {cs : Array Value} {t : TypeId} (h : BlkB W B cs t) (o : Nat) : W.frozen? ⟨B, o, none⟩ = false := by simp [World.frozen?, show W.heap[B]? = _ from h]
theorem BlkB.set {W : World} {B : Nat} {cs : Array Value} {t : TypeId} (h : BlkB W B cs t) (o : Nat) (u : Value) : BlkB (W.setCell ⟨B, o, none⟩ u) B (cs.setIfInBounds o u) t := heap_setCell_same W B o cs t u h
theorem BlkB.other {W : World} {B B' o : Nat} {cs : Array Value} {t : TypeId} (h : BlkB W B cs t) (hne : B ≠ B') (u : Value) : BlkB (W.setCell ⟨B', o, none⟩ u) B cs t := (Below.heap_setCell W ⟨B', o, none⟩ u B hne).trans h
theorem BlkB.turn {X Y : World} {row : Option Nat} {B : Nat} {cs : Array Value} {t : TypeId} (h : BlkB X B cs t) (hg : X.grownBy Y row) (hrow : ∀ r, row = some r → ∃ o : Obj, X.heap[r]? = some o ∧ o.isCells = false) : BlkB Y B cs t :=
  (hg.block B h.lt (fun e => by obtain ⟨o, ho, hc⟩ := hrow B e.symm; rw [show X.heap[B]? = _ from h] at ho; cases ho; cases hc)).trans h

theorem keeps_below {W W' : World} (hb : Below W.heap.size W W') : KeepsOthers W W' := ⟨hb.size, fun k _ hk _ => (hb.block k (Array.getElem?_eq_some_iff.1 hk).1).trans hk⟩

def hasR (r : Rt) (a : Int) : Bool := inB a r.1 (r.1 + psz r.2.1 - 1)
/-- The best route by the program's way: the last that has the address. -/
def bestB (L : List Rt) (a : Int) : Option Rt := L.reverse.find? fun r => hasR r a

def r3 (r : Rt) : Array Value := #[.int .i64 r.1, .int .i64 r.2.1, .int .i64 r.2.2]
def z3 : Array Value := #[.int .i64 0, .int .i64 0, .int .i64 0]

/-- Between two rounds. -/
def BI (w : World) (N : Nat) (a : Int) (pre : List BY) (W : World) : Prop :=
  N ≤ W.heap.size ∧ (∀ p ∈ pre, hasR p.1.2 a = false) ∧ BlkB W (w.heap.size + 1) #[.int .i64 a] 3 ∧ BlkB W (w.heap.size + 1 + 1) z3 43 ∧ BlkB W (w.heap.size + 1 + 1 + 1) #[.bool false] 4 ∧ Below w.heap.size w W
/-- A round has returned. -/
def BX' (w : World) (a : Int) (c : Code) (pre : List BY) (W : World) : Prop :=
  c = .ret ∧ (∃ ini last, pre = ini ++ [last] ∧ (∀ p ∈ ini, hasR p.1.2 a = false) ∧ hasR last.1.2 a = true ∧ BlkB W (w.heap.size + 1 + 1) (r3 last.1.2) 43 ∧ BlkB W (w.heap.size + 1 + 1 + 1) #[.bool true] 4) ∧ Below w.heap.size w W

theorem ownBI (w : World) (a : Int) (M N : Nat) (hN : w.heap.size ≤ N) : OwnFrom N (BI w M a) := fun pre W W' row h hg hr => by
  obtain ⟨h0, h1, h2, h3, h4, h5⟩ := h
  have hr' := fun r e => (hr r e).2
  exact ⟨Nat.le_trans h0 hg.size, h1, h2.turn hg hr', h3.turn hg hr', h4.turn hg hr', h5.grown hg h5.size (fun k e => Nat.le_trans hN (hr k e).1)⟩
theorem ownBX (w : World) (a : Int) (c : Code) (N : Nat) (hN : w.heap.size ≤ N) : OwnFrom N (BX' w a c) := fun pre W W' row h hg hr => by
  obtain ⟨h1, ⟨ini, last, e1, e2, e3, h3, h4⟩, h5⟩ := h
  have hr' := fun r e => (hr r e).2
  exact ⟨h1, ⟨ini, last, e1, e2, e3, h3.turn hg hr', h4.turn hg hr'⟩, h5.grown hg h5.size (fun k e => Nat.le_trans hN (hr k e).1)⟩

set_option maxRecDepth 100000 in
set_option maxHeartbeats 4000000 in
theorem best_walk (lo hi len cap : Nat) (A : Option Addr) (L : List Rt) (a : Int) (w : World) (hL : L.length = len) (hr : Row 3 w lo hi (.slice A len cap) len (flat L)) (hh : hi ≤ w.heap.size) (ht : tok L = true) (hv : ∀ r ∈ L, pokB r.1 r.2.1 = true) :
    CallsIn Fence.wide 3 Try.prog 72 #[.agg #[.slice A len cap], .int .i64 a] w fun e w' =>
      ((e = .returned (.tuple #[.agg z3, .bool false]) ∧ ∀ p ∈ upb L L.length, hasR p.1.2 a = false) ∨
       (∃ k last, k < L.length ∧ upb L (k + 1) = upb L k ++ [last] ∧ (∀ p ∈ upb L k, hasR p.1.2 a = false) ∧ hasR last.1.2 a = true ∧ e = .returned (.tuple #[.agg (r3 last.1.2), .bool true]))) ∧ Below w.heap.size w w' := by
  have hro : Fence.wide.round = none := rfl
  have h1 : 1 ≤ 3 := by omega
  refine callsIn_of_wp_marks Try.func72 rfl trivial ?_ hro
  simp only [Try.ntmps72, List.size_toArray, List.length_cons, List.length_nil, Nat.reduceAdd, Nat.reduceSub, Array.replicate_succ, Array.replicate_zero, List.push_toArray, List.append_toArray, List.nil_append, List.cons_append]
  gi_wp2_with fail
  refine ⟨trivial, ?_⟩
  gi_at_call 56
  refine (callsIn_wide.2 (itok_any lo hi len _ L _ hL (hr.below (B := w.heap.size) (by go_grown) hh) (by simp; omega))).mono ?_
  rw [ht]
  rintro e w1 ⟨rfl, hb1⟩
  have hs1 : w.heap.size + 4 ≤ w1.heap.size := by have hh := hb1.size; simp at hh; omega
  have q0 := ((BlkB.new w #[.slice A len cap] 30).alloc (.cells #[.int .i64 a] 3)).alloc (.cells #[.int .i64 0, .int .i64 0, .int .i64 0] 43) |>.alloc (.cells #[.bool false] 4)
  have q1 := ((BlkB.new (w.alloc (.cells #[.slice A len cap] 30)) #[.int .i64 a] 3).alloc (.cells #[.int .i64 0, .int .i64 0, .int .i64 0] 43)).alloc (.cells #[.bool false] 4)
  have q2 := (BlkB.new ((w.alloc (.cells #[.slice A len cap] 30)).alloc (.cells #[.int .i64 a] 3)) z3 43).alloc (.cells #[.bool false] 4)
  have q3 := BlkB.new (((w.alloc (.cells #[.slice A len cap] 30)).alloc (.cells #[.int .i64 a] 3)).alloc (.cells #[.int .i64 0, .int .i64 0, .int .i64 0] 43)) #[.bool false] 4
  simp only [World.size_alloc] at q1 q2 q3
  have k0 := q0.below hb1 (by simp <;> omega)
  have k1 := q1.below hb1 (by simp <;> omega)
  have k2 := q2.below hb1 (by simp <;> omega)
  have k3 := q3.below hb1 (by simp)
  have hB1 : Below w.heap.size w w1 := Below.trans (by go_grown) (hb1.mono (by simp <;> omega))
  have hr1 := (hr.below hB1 hh).toB hL
  have c0 : w1.cell? ⟨w.heap.size, 0, none⟩ = some (.slice A len cap) := k0.cell 0
  clear hb1 hr q0 q1 q2 q3
  have Hk := Lib.hid (And.intro k1 (And.intro k2 (And.intro k3 (And.intro hB1 hr1))))
  clear k0 k1 k2 k3 hB1 hr1
  gi_wp2_with fail
  refine ⟨trivial, ?_⟩
  gi_at_call 108
  refine (backward_in Fence.wide 2 trivial rfl _ _ _ _).mono ?_
  rintro e w' ⟨rfl, rfl⟩
  gi_wp2_with fail
  obtain ⟨k1, k2, k3, hB1, hr1⟩ := Hk.out
  obtain ⟨W0, hW0⟩ : ∃ W0, w1.alloc (.cells #[.slice A len cap] 28) = W0 := ⟨_, rfl⟩
  have hsz : W0.heap.size = w1.heap.size + 1 := by rw [← hW0]; simp
  have b0 : W0.cell? ⟨w1.heap.size, 0, none⟩ = some (.slice A len cap) := by rw [← hW0]; exact new_box _ _ _
  have hBw : Below w1.heap.size w1 W0 := by rw [← hW0]; go_grown
  have l1 : BlkB W0 (w.heap.size + 1) #[.int .i64 a] 3 := by rw [← hW0]; exact k1.alloc _
  have l2 : BlkB W0 (w.heap.size + 1 + 1) z3 43 := by rw [← hW0]; exact k2.alloc _
  have l3 : BlkB W0 (w.heap.size + 1 + 1 + 1) #[.bool false] 4 := by rw [← hW0]; exact k3.alloc _
  have hB0 : Below w.heap.size w W0 := hB1.trans (hBw.mono (by omega))
  have hr0 : RowB (w1.heap.size + 1) W0 (.slice A len cap) L := by
    rcases hr1.below (hBw.mono (by omega)) with h | ⟨g, cap', e, h1, h2, h3⟩
    · exact .inl h
    · exact .inr ⟨g, cap', e, h1, by omega, h3⟩
  rw [hW0]
  clear hW0
  refine wpIn_rangeFunc_ownH hro h1 (gf := 131) (lb := #[.pointer (some ⟨w1.heap.size, 0, none⟩)]) rfl trivial (enters_of Try.func131 (by kernel_rfl) rfl)
    (back_stops Fence.wide 2 trivial rfl (by omega) w1.heap.size (w1.heap.size + 1) (.slice A len cap) L hv W0 (by omega) (by omega) b0 hr0) belowK_t (belowK_b (by omega)) (Below.refl _ _) (fun _ => rfl)
    (BI w (w1.heap.size + 1) a) (BX' w a) (ownBI w a _ _ (by omega)) (fun c => ownBX w a c _ (by omega))
    ⟨by omega, fun p hp => by simp at hp, l1, l2, l3, hB0⟩
    (fun x a' W => ∃ Bx, w1.heap.size < Bx ∧ BlkB W Bx (r3 x.1.2) 43 ∧ a' = { tmps := #[.agg #[.slice A len cap], .int .i64 a, .pointer (some ⟨w.heap.size, 0, none⟩), .pointer (some ⟨w.heap.size + 1, 0, none⟩), .pointer (some ⟨w.heap.size + 1 + 1, 0, none⟩), .pointer (some ⟨w.heap.size + 1 + 1 + 1, 0, none⟩), undef, .pointer (some ⟨Bx, 0, none⟩), .agg #[.slice A len cap], .bool true, .bool false, undef, .pointer (some ⟨w.heap.size, 0, none⟩), .slice A len cap, .func (.func 131) #[] #[.pointer (some ⟨w1.heap.size, 0, none⟩)], .int .i64 x.1.1, .agg (r3 x.1.2), undef, undef, undef, undef, undef, undef], defers := [] })
    (fun x a' _ X Y row hs hg hr => by obtain ⟨Bx, h1, h2, h3⟩ := hs; exact ⟨Bx, h1, h2.turn hg (fun r e => (hr r e).2), h3⟩)
    ?assign ?body ?done ?stop
  case assign =>
    rintro l pre x W K hI hK
    have hI' := Lib.hid hI
    clear hI
    dsimp only [encB]
    gi_wp2
    obtain ⟨i0, i1, i2, i3, i4, i5⟩ := hI'.out
    exact hK _ _ ((KeepsOthers.alloc _ _).from _) ((Below.refl _ W).alloc i0 _) ⟨by simp; omega, i1, i2.alloc _, i3.alloc _, i4.alloc _, i5.alloc i5.size _⟩ ⟨W.heap.size, by omega, BlkB.new W (r3 x.1.2) 43, rfl⟩
  case body =>
    rintro l pre x a' W hl ⟨r, hr⟩ hI ⟨Bx, hBx, bX, rfl⟩ hlt
    obtain ⟨⟨ix, x0, x1, x2⟩, hx⟩ := x
    obtain ⟨v0, v1, v2, v3, _⟩ := pokB_true hx
    have hI' := Lib.hid (And.intro hI bX)
    have hsB := bX.lt
    have c0 := bX.cell 0
    have c1 := bX.cell 1
    have c2 := bX.cell 2
    have ca := hI.2.2.1.cell 0
    simp only [r3] at c0 c1 c2
    simp at c0 c1 c2 ca
    clear hI bX
    dsimp only [r3]
    dsimp only at v0 v1 v2 v3
    by_cases hh : hasR (x0, x1, x2) a = true
    · have hc : ∀ w, Calls Try.prog 96 #[.agg #[.int .i64 x0, .int .i64 x1], .int .i64 a] w fun e w' => e = .returned (.bool true) ∧ Below w.heap.size w w' := fun w => by
        have := has_any x0 x1 a w v0 v1 v2 v3
        rw [show inB a x0 (x0 + psz x1 - 1) = true from hh] at this
        exact this
      have Hc := Lib.hid hc
      have Hh := Lib.hid hh
      clear hc hh
      gi_wp2_with fail
      refine ⟨trivial, ?_⟩
      gi_at_call 96
      refine (CallsIn.inRound l (callsIn_wide.2 (Hc.out _))).mono ?_
      rintro e W2 ⟨rfl, hb⟩
      obtain ⟨⟨i0, i1, i2, i3, i4, i5⟩, bX⟩ := hI'.out
      have j3 := i3.below hb i3.lt
      have j4 := i4.below hb i4.lt
      have jX := bX.below hb bX.lt
      have hB2 : Below w.heap.size w W2 := i5.trans (hb.mono i5.size)
      have d0 := jX.cell 0
      have d1 := jX.cell 1
      have d2 := jX.cell 2
      have e0 := j3.cell 0
      have e1 := j3.cell 1
      have e2 := j3.cell 2
      have e3 := j4.cell 0
      have f0 := j3.frozen 0
      have f1 := j3.frozen 1
      have f2 := j3.frozen 2
      have f3 := j4.frozen 0
      simp [r3, z3] at d0 d1 d2 e0 e1 e2 e3
      have Hj := Lib.hid (And.intro i1 (And.intro j3 (And.intro j4 (And.intro hB2 hb))))
      clear i0 i1 i2 i3 i4 i5 bX j3 j4 jX hB2 hb c0 c1 c2 ca hI'
      gi_wp2_with fail
      obtain ⟨i1, j3, j4, hB2, hb⟩ := Hj.out
      refine ⟨((((((keeps_below hb).trans (KeepsOthers.setCell _ _ _)).trans (KeepsOthers.setCell _ _ _)).trans (KeepsOthers.setCell _ _ _)).trans (KeepsOthers.setCell _ _ _))).from _, rfl, ⟨pre, _, rfl, i1, Hh.out, ?_, ?_⟩, ?_⟩
      · exact (((j3.set 0 _).set 1 _).set 2 _).other (by omega) _
      · exact (((j4.other (by omega) _).other (by omega) _).other (by omega) _).set 0 _
      · exact (((hB2.setCell (p := ⟨w.heap.size + 1 + 1, 0, none⟩) (by simp; omega) _).setCell (p := ⟨w.heap.size + 1 + 1, 1, none⟩) (by simp; omega) _).setCell (p := ⟨w.heap.size + 1 + 1, 2, none⟩) (by simp; omega) _).setCell (p := ⟨w.heap.size + 1 + 1 + 1, 0, none⟩) (by simp; omega) _
    · rw [Bool.not_eq_true] at hh
      have hc : ∀ w, Calls Try.prog 96 #[.agg #[.int .i64 x0, .int .i64 x1], .int .i64 a] w fun e w' => e = .returned (.bool false) ∧ Below w.heap.size w w' := fun w => by
        have := has_any x0 x1 a w v0 v1 v2 v3
        rw [show inB a x0 (x0 + psz x1 - 1) = false from hh] at this
        exact this
      have Hc := Lib.hid hc
      have Hh := Lib.hid hh
      clear hc hh
      gi_wp2_with fail
      refine ⟨trivial, ?_⟩
      gi_at_call 96
      refine (CallsIn.inRound l (callsIn_wide.2 (Hc.out _))).mono ?_
      rintro e W2 ⟨rfl, hb⟩
      have Hb := Lib.hid hb
      clear c0 c1 c2 ca hb
      gi_wp2_with fail
      obtain ⟨⟨i0, i1, i2, i3, i4, i5⟩, bX⟩ := hI'.out
      have hb := Hb.out
      refine ⟨(keeps_below hb).from _, hb.mono i0, Nat.le_trans i0 hb.size, fun p hp => ?_, i2.below hb i2.lt, i3.below hb i3.lt, i4.below hb i4.lt, i5.trans (hb.mono i5.size)⟩
      rcases List.mem_append.1 hp with hp | hp
      · exact i1 p hp
      · simp at hp; subst hp; exact Hh.out
  case done =>
    rintro D ys W hD rfl hI hK
    obtain ⟨i0, i1, i2, i3, i4, i5⟩ := hI
    have e0 := i3.cell 0
    have e1 := i3.cell 1
    have e2 := i3.cell 2
    have e3 := i4.cell 0
    have f0 := i3.frozen 0
    have f1 := i3.frozen 1
    have f2 := i3.frozen 2
    have f3 := i4.frozen 0
    simp [z3] at e0 e1 e2 e3
    have Hj := Lib.hid (And.intro i1 (And.intro i3 (And.intro i4 i5)))
    have HK := Lib.hid hK
    clear i0 i1 i2 i3 i4 i5 hK
    gi_wp2
    obtain ⟨i1, i3, i4, i5⟩ := Hj.out
    have hK' := (((((KeepsOthers.setCell W ⟨w.heap.size + 1 + 1, 0, none⟩ (.int .i64 0)).trans (KeepsOthers.setCell _ ⟨w.heap.size + 1 + 1, 1, none⟩ (.int .i64 0))).trans (KeepsOthers.setCell _ ⟨w.heap.size + 1 + 1, 2, none⟩ (.int .i64 0))).trans (KeepsOthers.setCell _ ⟨w.heap.size + 1 + 1 + 1, 0, none⟩ (.bool false)))).same D _ HK.out rfl
    have b3 : BlkB _ _ _ _ := ((((i3.set 0 (.int .i64 0)).set 1 (.int .i64 0)).set 2 (.int .i64 0)).other (B' := w.heap.size + 1 + 1 + 1) (o := 0) (by omega) (.bool false)).turn (grownBy_putObj' _ D (.deferred none)) (fun r e => by cases e; exact ⟨_, hK', rfl⟩)
    have b4 : BlkB _ _ _ _ := ((((i4.other (B' := w.heap.size + 1 + 1) (o := 0) (by omega) (.int .i64 0)).other (B' := w.heap.size + 1 + 1) (o := 1) (by omega) (.int .i64 0)).other (B' := w.heap.size + 1 + 1) (o := 2) (by omega) (.int .i64 0)).set 0 (.bool false)).turn (grownBy_putObj' _ D (.deferred none)) (fun r e => by cases e; exact ⟨_, hK', rfl⟩)
    refine ⟨by simp, .inl ⟨_, _, rfl, run_takeDeferred hK', ?_⟩⟩
    have g0 := b3.cell 0
    have g1 := b3.cell 1
    have g2 := b3.cell 2
    have g3 := b4.cell 0
    simp only [z3] at g0 g1 g2 g3
    refine ⟨.tuple #[.agg z3, .bool false], ?_, .inl ⟨rfl, i1⟩, ((((i5.setCell (p := ⟨w.heap.size + 1 + 1, 0, none⟩) (by simp; omega) _).setCell (p := ⟨w.heap.size + 1 + 1, 1, none⟩) (by simp; omega) _).setCell (p := ⟨w.heap.size + 1 + 1, 2, none⟩) (by simp; omega) _).setCell (p := ⟨w.heap.size + 1 + 1 + 1, 0, none⟩) (by simp; omega) _).trans (belowK_b (w := w) (Nat.le_refl _) _ D _ _ (by omega) hK' rfl rfl)⟩
    simp [results, Try.f72, go_sem, g0, g1, g2, g3, z3]
  case stop =>
    rintro D c pre W hD ⟨k, hk, rfl⟩ ⟨rfl, ⟨ini, last, e1, e2, e3, i3, i4⟩, i5⟩ hK
    obtain ⟨k', rfl⟩ : ∃ k', k = k' + 1 := by
      cases k with
      | zero => simp [upb] at e1
      | succ k' => exact ⟨k', rfl⟩
    have e1' := e1
    rw [upb_succ] at e1
    obtain ⟨rfl, e5⟩ := List.append_inj' e1 rfl
    have Hj := Lib.hid (And.intro e1' (And.intro e2 (And.intro e3 (And.intro i3 (And.intro i4 i5)))))
    have HK := Lib.hid hK
    clear e1 e1' e2 e3 i3 i4 i5 hK e5
    gi_wp2
    obtain ⟨e1, e2, e3, i3, i4, i5⟩ := Hj.out
    have hK' := HK.out
    refine ⟨by simp, .inl ⟨_, _, rfl, run_takeDeferred hK', ?_⟩⟩
    have b3 : BlkB _ _ _ _ := i3.turn (grownBy_putObj' _ D (.deferred none)) (fun r e => by cases e; exact ⟨_, hK', rfl⟩)
    have b4 : BlkB _ _ _ _ := i4.turn (grownBy_putObj' _ D (.deferred none)) (fun r e => by cases e; exact ⟨_, hK', rfl⟩)
    have g0 := b3.cell 0
    have g1 := b3.cell 1
    have g2 := b3.cell 2
    have g3 := b4.cell 0
    simp only [r3] at g0 g1 g2 g3
    refine ⟨.tuple #[.agg (r3 last.1.2), .bool true], ?_, .inr ⟨k', last, by omega, e1, e2, e3, rfl⟩, i5.trans (belowK_b (w := w) (Nat.le_refl _) _ D _ _ (by omega) hK' rfl rfl)⟩
    simp [results, Try.f72, go_sem, g0, g1, g2, g3, r3]

end Go.Proofs.Ytgdnfglhlpnooaa
