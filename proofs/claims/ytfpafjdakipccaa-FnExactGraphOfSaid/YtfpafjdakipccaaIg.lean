/- The graph of a database: the program. -/
import Derived.Test.YtfpafjdakipccaaLt
import Derived.Test.YtfpafjdakipccaaCf
import Derived.Test.YtfpafjdakipccaaFf
import Derived.Test.YtfpafjdakipccaaGi
import Derived.Maps.AppendAt
import Derived.Deep.AppendLies
namespace Go.Proofs.Ytfpafjdakipccaa
open Go.RowKit


theorem Try.info105 : (Try.prog.info? 105).map (fun i => (i.zero, i.size, i.bytes)) = some (some (.agg #[.int .i64 0, .int .i64 0, .int .i64 0]), 3, 24) := by kernel_rfl
def GPost (D : List Ls) (w : World) (e : Ending) (w' : World) : Prop := ∃ rv, e = .returned (.tuple #[.agg #[.int .i64 (gfN D), rv], .bool (gfO D)]) ∧ Row 3 w' w.heap.size w'.heap.size rv (gfE D).length (flat (gfE D)) ∧ Below w.heap.size w w'
theorem gP {D : List Ls} {w w' : World} {e : Ending} (rv : Value) (h1 : e = .returned (.tuple #[.agg #[.int .i64 (gfN D), rv], .bool (gfO D)])) (h2 : Row 3 w' w.heap.size w'.heap.size rv (gfE D).length (flat (gfE D))) (h3 : Below w.heap.size w w') : GPost D w e w' := ⟨rv, h1, h2, h3⟩
/-- Two boxes, and what lay before. -/
structure G2 (w wr : World) (va : Value) : Prop where
  c0 : wr.cell? ⟨w.heap.size, 0, none⟩ = some va
  r0 : wr.cell? ⟨w.heap.size + 1, 0, none⟩ = some (.int .i64 0)
  r1 : wr.cell? ⟨w.heap.size + 1, 1, none⟩ = some (.slice none 0 0)
  f0 : wr.frozen? ⟨w.heap.size + 1, 0, none⟩ = false
  f1 : wr.frozen? ⟨w.heap.size + 1, 1, none⟩ = false
  size : w.heap.size + 2 ≤ wr.heap.size
  below : Below w.heap.size w wr
theorem G2.next {w wr w2 : World} {va : Value} (h : G2 w wr va) (hb : Below (w.heap.size + 2) wr w2) : G2 w w2 va :=
  ⟨by rw [hb.cell (p := ⟨w.heap.size, 0, none⟩) (by show w.heap.size < _; omega)]; exact h.c0,
   by rw [hb.cell (p := ⟨w.heap.size + 1, 0, none⟩) (by show w.heap.size + 1 < _; omega)]; exact h.r0,
   by rw [hb.cell (p := ⟨w.heap.size + 1, 1, none⟩) (by show w.heap.size + 1 < _; omega)]; exact h.r1,
   by rw [hb.frozen (p := ⟨w.heap.size + 1, 0, none⟩) (by show w.heap.size + 1 < _; omega)]; exact h.f0,
   by rw [hb.frozen (p := ⟨w.heap.size + 1, 1, none⟩) (by show w.heap.size + 1 < _; omega)]; exact h.f1,
   Nat.le_trans h.size hb.size, h.below.trans (hb.mono (by omega))⟩
/-- The graph so far, in a box. -/
structure GX (qb wr : World) (rv : Value) (L : List Ed) : Prop where
  x0 : wr.cell? ⟨qb.heap.size, 0, none⟩ = some (.int .i64 10)
  x1 : wr.cell? ⟨qb.heap.size, 1, none⟩ = some rv
  f1 : wr.frozen? ⟨qb.heap.size, 1, none⟩ = false
  hx : qb.heap.size < wr.heap.size
  own : Own 105 3 qb wr rv L.length (ints (flat L))
  ne : rv.ownBlock ≠ some qb.heap.size
theorem GX.start (qb : World) : GX qb (qb.alloc (.cells #[.int .i64 10, .slice none 0 0] 68)) (.slice none 0 0) [] :=
  ⟨by rw [new_at rfl]; rfl, by rw [new_at rfl]; rfl, new_frz rfl, by simp, (Own.nil 105 3 qb).alloc _, by simp [Value.ownBlock]⟩
theorem GX.grow {qb wr w2 : World} {rv : Value} {L : List Ed} (h : GX qb wr rv L) (hb : Below wr.heap.size wr w2) : GX qb w2 rv L :=
  ⟨((bcell hb).1 _ _ h.hx).trans h.x0, ((bcell hb).1 _ _ h.hx).trans h.x1, ((bcell hb).2 _ _ h.hx).trans h.f1, Nat.lt_of_lt_of_le h.hx hb.size, h.own.grow hb, h.ne⟩
/-- One more edge put behind the others. -/
theorem GX.app {qb wb w4 : World} {rv : Value} {L : List Ed} {o : Obj} {g n cap : Nat} {a b c : Int} (h : GX qb wb rv L) (hn : n = L.length + 1) (hg : (wb.alloc o).grownBy w4 rv.ownBlock)
    (hown : w4.ownsRow qb.heap.size 105 3 (.slice (some ⟨g, 0, none⟩) n cap) n (ints (flat L) ++ [.int .i64 a, .int .i64 b, .int .i64 c])) (hat : rv.ownBlock = some g ∨ g = (wb.alloc o).heap.size) :
    w4.cell? ⟨qb.heap.size, 1, none⟩ = some rv ∧ w4.frozen? ⟨qb.heap.size, 1, none⟩ = false ∧ qb.heap.size < w4.heap.size ∧ (∀ j, j < wb.heap.size → rv.ownBlock ≠ some j → w4.heap[j]? = wb.heap[j]?) ∧ wb.heap.size ≤ w4.heap.size ∧ Below qb.heap.size wb (w4.setCell ⟨qb.heap.size, 1, none⟩ (.slice (some ⟨g, 0, none⟩) n cap)) ∧
    GX qb (w4.setCell ⟨qb.heap.size, 1, none⟩ (.slice (some ⟨g, 0, none⟩) n cap)) (.slice (some ⟨g, 0, none⟩) n cap) (L ++ [(a, b, c)]) := by
  have hx := h.hx
  have hz : wb.heap.size ≤ w4.heap.size := by have := hg.size; simp at this; omega
  have hk : ∀ j, j < wb.heap.size → rv.ownBlock ≠ some j → w4.heap[j]? = wb.heap[j]? := fun j hj hne => by
    rw [hg.block j (by simp; omega) (fun q => hne q.symm)]; exact Below.heap_alloc _ _ j hj
  have c1 : w4.cell? ⟨qb.heap.size, 1, none⟩ = some rv := by rw [World.cell?_of_block (w := wb) (a := ⟨qb.heap.size, 1, none⟩) (hk _ hx h.ne)]; exact h.x1
  have c0 : w4.cell? ⟨qb.heap.size, 0, none⟩ = some (.int .i64 10) := by rw [World.cell?_of_block (w := wb) (a := ⟨qb.heap.size, 0, none⟩) (hk _ hx h.ne)]; exact h.x0
  have f1 : w4.frozen? ⟨qb.heap.size, 1, none⟩ = false := by rw [World.frozen?_of_block (w := wb) (a := ⟨qb.heap.size, 1, none⟩) (hk _ hx h.ne)]; exact h.f1
  have hne : (Value.slice (some ⟨g, 0, none⟩) n cap).ownBlock ≠ some qb.heap.size := fun q => by
    have e : g = qb.heap.size := by simpa [Value.ownBlock] using q
    rcases hat with h2 | h2
    · exact h.ne (by rw [h2, e])
    · simp at h2; omega
  have hbb : Below qb.heap.size wb w4 := ⟨hg.os, hg.tape, hg.output, hz, fun j hj => hk j (by omega) (fun q => by have := (h.own.row.lt j q).1; omega)⟩
  refine ⟨c1, f1, by omega, hk, hz, hbb.setCell (Nat.le_refl _) _, ?_, World.cell?_setCell_same' _ _ _ (by rw [c1]; rfl), by rw [World.frozen?_setCell]; exact f1, by simp [World.setCell]; omega, ?_, hne⟩
  · rw [World.cell?_setCell_other _ _ _ _ (by simp)]; exact c0
  · have hb4 : Below qb.heap.size qb w4 := ⟨hg.os.trans h.own.below.os, hg.tape.trans h.own.below.tape, hg.output.trans h.own.below.output, by omega, fun j hj => (hk j (by omega) (fun q => by have := (h.own.row.lt j q).1; omega)).trans (h.own.below.block j hj)⟩
    have hw : w4.ownsRow qb.heap.size 105 3 (.slice (some ⟨g, 0, none⟩) n cap) (L ++ [(a, b, c)]).length (ints (flat (L ++ [(a, b, c)]))) := by
      rw [List.length_append, flat_app]
      subst hn
      have e : ints (flat L ++ flat [(a, b, c)]) = ints (flat L) ++ [.int .i64 a, .int .i64 b, .int .i64 c] := by simp [ints, flat]
      rw [e]
      exact hown
    exact ⟨hb4.setCell (Nat.le_refl _) _, hw.kept (row := some qb.heap.size) ⟨rfl, rfl, rfl, by simp [World.setCell], fun j _ hj => Below.heap_setCell _ _ _ _ (fun e => hj (by rw [e]))⟩ (.inr hne)⟩
/-- What a lookup in a shelf gives. -/
theorem Shelf.look {w : World} {m B : Nat} {F : Int → Option Ls} (h : Shelf w m B F) (x : Int) : ∃ f u y lo hi, MapI w m f ∧ (f x).getD (.agg #[.int .i64 0, .int .i64 0, .int .i64 0, .slice none 0 0, .slice none 0 0]) = lsv ((F x).getD l0) u y ∧ LRow w lo hi u y ((F x).getD l0).K.length ((F x).getD l0).T.length (flat2 ((F x).getD l0).K) (flat ((F x).getD l0).T) ∧ hi ≤ B := by
  obtain ⟨h0, f, h1, h2⟩ := h
  rcases h2 x with ⟨e1, e2⟩ | ⟨l, u, y, lo, hi, e1, e2, r, hB⟩
  · exact ⟨f, .slice none 0 0, .slice none 0 0, 0, 0, h1, by rw [e1, e2]; rfl, by rw [e1]; exact lrow_nil w (Nat.le_refl _), Nat.zero_le _⟩
  · exact ⟨f, u, y, lo, hi, h1, by rw [e1, e2]; rfl, by rw [e1]; exact r, hB⟩
theorem ints_one3 (a b c : Int) : ∀ u ∈ [Value.int .i64 a, .int .i64 b, .int .i64 c], u.oneCell' = true := by intro u hu; simp at hu; rcases hu with rfl | rfl | rfl <;> rfl
theorem gf_no {D : List Ls} (h : gfO D = false) : gfN D = 0 ∧ gfE D = [] := by unfold gfN gfE; rw [h]; exact ⟨rfl, rfl⟩
theorem gf_yes {D : List Ls} (h : gfO D = true) : gfN D = 10 ∧ gfE D = gout D := by unfold gfN gfE; rw [h]; exact ⟨rfl, rfl⟩

set_option linter.unusedVariables false in
set_option maxRecDepth 100000 in
set_option maxHeartbeats 8000000 in
theorem igraph_1 (D : List Ls) (lo hi : Nat) (v : Value) (w : World) (hr : DRow w lo hi v D) (hh : hi ≤ w.heap.size) (hv : dokB D = false) :
    Calls Try.prog 43 #[.agg #[v]] w fun e w' => GPost D w e w' := by
  have HV := Lib.hid hv
  have HO : Hid (gfO D = false) := Lib.hid (by unfold gfO; rw [hv]; rfl)
  have R0 := Lib.hid hr
  have hr' := hr
  obtain ⟨a, c, us, xs, bs, ev, X⟩ := hr'
  subst ev
  obtain ⟨n, hn⟩ : ∃ n, n = D.length := ⟨_, rfl⟩
  rw [← hn] at R0 ⊢
  clear X hr hn hv
  go_enter Try.func43, Try.ntmps43
  go_wp2_with fail
  obtain ⟨q0, hq0⟩ : ∃ q, q = (w.alloc (.cells #[.slice a n c] 26)).alloc (.cells #[.int .i64 0, .slice none 0 0] 68) := ⟨_, rfl⟩
  have I0 : Hid (G2 w q0 (.slice a n c)) := Lib.hid (by
    rw [hq0]
    refine ⟨?_, ?_, ?_, ?_, ?_, ?_, ?_⟩
    all_goals first | (rw [old_box (by simp), new_at (by simp)]; rfl; done) | (rw [new_at (by simp)]; rfl; done) | (rw [new_frz (by simp)]; done) | (simp; done) | go_grown)
  rw [← hq0]
  clear hq0
  have c0_ := I0.out.c0
  have r0_ := I0.out.r0
  have r1_ := I0.out.r1
  have f0_ := I0.out.f0
  have f1_ := I0.out.f1
  have size_ := I0.out.size
  have hw0_ : w.heap.size < q0.heap.size := by omega
  have hw1_ : w.heap.size + 1 < q0.heap.size := by omega
  go_wp2_with fail
  go_at_call 20
  refine (idbok_any D lo hi _ _ (R0.out.below I0.out.below hh) (by omega)).mono ?_
  rw [HV.out]
  rintro e w1 ⟨rfl, hb1⟩
  have I1 : Hid (G2 w w1 (.slice a n c)) := Lib.hid (I0.out.next (hb1.mono I0.out.size))
  clear hb1 c0_ r0_ r1_ f0_ f1_ size_ hw0_ hw1_
  have c0_ := I1.out.c0
  have r0_ := I1.out.r0
  have r1_ := I1.out.r1
  have f0_ := I1.out.f0
  have f1_ := I1.out.f1
  have size_ := I1.out.size
  have hw0_ : w.heap.size < w1.heap.size := by omega
  have hw1_ : w.heap.size + 1 < w1.heap.size := by omega
  go_wp2_with fail
  refine bodyPost_ret (v := .tuple #[.agg #[.int .i64 0, .slice none 0 0], .bool false]) (by simp [results, Try.results43, go_sem, *]) rfl (gP (.slice none 0 0) (by rw [HO.out, (gf_no HO.out).1]) ?_ ?_)
  · rw [(gf_no HO.out).2]; exact ⟨rfl, .inl ⟨rfl, none, 0, rfl⟩⟩
  · exact ((I1.out.below.setCell (by simp <;> omega) _).setCell (by simp <;> omega) _)

set_option linter.unusedVariables false in
set_option maxRecDepth 100000 in
set_option maxHeartbeats 8000000 in
theorem igraph_2 (D : List Ls) (lo hi : Nat) (v : Value) (w : World) (hr : DRow w lo hi v D) (hh : hi ≤ w.heap.size) (hv : dokB D = true) :
    Calls Try.prog 43 #[.agg #[v]] w fun e w' => GPost D w e w' := by
  have HV := Lib.hid hv
  have hn10 := dokB_len hv
  have HGE : Hid (∀ k, D.length ≤ k → gpre D (D.take k) = gout D) := Lib.hid fun k h => gout_end h
  have HG1 : Hid (∀ k, (gpre D (D.take k)).length ≤ 100) := Lib.hid fun k => gpre_100 hv k
  have HOO : Hid (gfO D = decide ((gout D).length ≤ 60)) := Lib.hid (by unfold gfO; rw [hv]; rfl)
  obtain ⟨iE, hi0, hz0, hz1, hz2⟩ := info_parts Try.info105
  have IE := Lib.hid (And.intro hi0 (And.intro hz0 (And.intro hz1 hz2)))
  clear hi0 hz0 hz1 hz2
  have HZV : Hid (∀ w : World, (zeroValue 33).run Try.prog w = .ok (.agg #[.int .i64 0, .int .i64 0, .int .i64 0, .slice none 0 0, .slice none 0 0]) w) := Lib.hid fun w => by simp [Try.zeroValue33]
  have R0 := Lib.hid hr
  have hr' := hr
  obtain ⟨a, c, us, xs, bs, ev, X⟩ := hr'
  subst ev
  obtain ⟨n, hn⟩ : ∃ n, n = D.length := ⟨_, rfl⟩
  rw [← hn] at R0 ⊢
  have HN := Lib.hid hn
  have HX := Lib.hid X
  clear X hr hn hv
  rw [← HN.out] at hn10
  go_enter Try.func43, Try.ntmps43
  go_wp2_with fail
  obtain ⟨q0, hq0⟩ : ∃ q, q = (w.alloc (.cells #[.slice a n c] 26)).alloc (.cells #[.int .i64 0, .slice none 0 0] 68) := ⟨_, rfl⟩
  have I0 : Hid (G2 w q0 (.slice a n c)) := Lib.hid (by
    rw [hq0]
    refine ⟨?_, ?_, ?_, ?_, ?_, ?_, ?_⟩
    all_goals first | (rw [old_box (by simp), new_at (by simp)]; rfl; done) | (rw [new_at (by simp)]; rfl; done) | (rw [new_frz (by simp)]; done) | (simp; done) | go_grown)
  rw [← hq0]
  clear hq0
  have c0_ := I0.out.c0
  have r0_ := I0.out.r0
  have r1_ := I0.out.r1
  have f0_ := I0.out.f0
  have f1_ := I0.out.f1
  have size_ := I0.out.size
  have hw0_ : w.heap.size < q0.heap.size := by omega
  have hw1_ : w.heap.size + 1 < q0.heap.size := by omega
  go_wp2_with fail
  go_at_call 20
  refine (idbok_any D lo hi _ _ (R0.out.below I0.out.below hh) (by omega)).mono ?_
  rw [HV.out]
  rintro e w1 ⟨rfl, hb1⟩
  have I1 : Hid (G2 w w1 (.slice a n c)) := Lib.hid (I0.out.next (hb1.mono I0.out.size))
  clear hb1 c0_ r0_ r1_ f0_ f1_ size_ hw0_ hw1_
  have c0_ := I1.out.c0
  have r0_ := I1.out.r0
  have r1_ := I1.out.r1
  have f0_ := I1.out.f0
  have f1_ := I1.out.f1
  have size_ := I1.out.size
  have hw0_ : w.heap.size < w1.heap.size := by omega
  have hw1_ : w.heap.size + 1 < w1.heap.size := by omega
  go_wp2_with fail
  go_at_call 50
  refine (shelf_any D lo hi _ _ (R0.out.below I1.out.below hh) (by omega) HV.out).mono ?_
  rintro e qb ⟨rfl, hsh, hb2⟩
  obtain ⟨m, hm⟩ : ∃ q, q = w1.heap.size + 1 := ⟨_, rfl⟩
  rw [← hm] at hsh ⊢
  have hml := hsh.lt
  have I2 : Hid (G2 w qb (.slice a n c)) := Lib.hid (I1.out.next (hb2.mono I1.out.size))
  have HBX : Hid (Below qb.heap.size qb (qb.alloc (.cells #[.int .i64 10, .slice none 0 0] 68))) := Lib.hid ((Below.refl _ _).alloc (Nat.le_refl _) _)
  have HSH := Lib.hid (hsh.below HBX.out hml)
  have HI0 := Lib.hid (I2.out.next (HBX.out.mono I2.out.size))
  have HGX := Lib.hid (GX.start qb)
  have HMX : Hid (m < qb.heap.size ∧ w.heap.size + 2 ≤ qb.heap.size ∧ w1.heap.size ≤ m) := Lib.hid ⟨hml, I2.out.size, by omega⟩
  clear hsh hm hb2 hml c0_ r0_ r1_ f0_ f1_ size_ hw0_ hw1_ HBX
  have c0_ := I2.out.c0
  have r0_ := I2.out.r0
  have r1_ := I2.out.r1
  have f0_ := I2.out.f0
  have f1_ := I2.out.f1
  have size_ := I2.out.size
  have hw0_ : w.heap.size < qb.heap.size := by omega
  have hw1_ : w.heap.size + 1 < qb.heap.size := by omega
  go_wp2
  clear c0_ r0_ r1_ f0_ f1_ size_ hw0_ hw1_ I0 I1 I2
  go_loopw [20] (fun i wr => ∃ (k : Nat) (rv : Value), k ≤ n ∧ i = .int .i64 (k : Int) ∧ Hid (G2 w wr (.slice a n c)) ∧ Hid (Shelf wr m w1.heap.size (dfind D)) ∧ Hid (GX qb wr rv (gpre D (D.take k)))) (fun i _ => n - (intOf i).toNat)
  case atStart => exact ⟨0, _, Nat.zero_le _, rfl, HI0, HSH, HGX⟩
  case round =>
    clear HI0 HSH HGX
    obtain ⟨k, rv, hk, rfl, hR, hS, hG⟩ := hrel
    by_cases hlt : k < n
    · skip
      obtain ⟨p, hp⟩ : ∃ p, D[k]? = some p := ⟨_, List.getElem?_eq_getElem (by have := HN.out; omega)⟩
      obtain ⟨G, rfl, g1, g2, _, g4, _⟩ := HX.out.outer (by have := HN.out; omega)
      have hc := (g4 k p hp).below hR.out.below (by omega)
      obtain ⟨i1, i2, i3'⟩ := HX.out.inner k p hp
      have RP := Lib.hid (i1.below hR.out.below (by omega))
      obtain ⟨x1, y1, x2, y2, e1, e2⟩ := i1.slice
      rw [e1, e2] at hc RP
      obtain ⟨d1, d2, d3, d4, d5⟩ := hc
      have hk0 : (0 : Int) ≤ (k : Int) := by omega
      have hk1 : (k : Int) < (n : Int) := by omega
      have hbz := hR.out.below.size
      have hGw : G < wr.heap.size := by omega
      obtain ⟨H0, hH0⟩ : ∃ q, q = (bs k).1 := ⟨_, rfl⟩
      obtain ⟨H1, hH1⟩ : ∃ q, q = (bs k).2 := ⟨_, rfl⟩
      have z1 : H1 ≤ wr.heap.size := by omega
      rw [← hH0, ← hH1] at RP
      have Hp := Lib.hid hp
      have HPO := Lib.hid (dokB_get HV.out hp).1
      have hsz := hR.out.size
      have hsz0 : w.heap.size < wr.heap.size := by omega
      have z2 : H1 ≤ w.heap.size := by omega
      have d0 := hR.out.c0
      clear i1 i2 i3' e1 e2 hH0 hH1 hp g4
      obtain ⟨wm, hwm⟩ : ∃ q, q = wr.alloc (.cells #[.int .i64 p.o, .int .i64 p.s, .int .i64 p.g, .slice x1 p.K.length y1, .slice x2 p.T.length y2] 33) := ⟨_, rfl⟩
      have hbm : Below wr.heap.size wr wm := by rw [hwm]; go_grown
      obtain ⟨b7, hb7⟩ : ∃ q, q = wr.heap.size := ⟨_, rfl⟩
      have k7 : Hid (wm.cell? ⟨b7, 0, none⟩ = some (.int .i64 p.o) ∧ b7 < wm.heap.size) := Lib.hid (by rw [hwm, hb7]; exact ⟨by rw [new_at rfl]; rfl, by simp⟩)
      have k73 : wm.cell? ⟨b7, 3, none⟩ = some (.slice x1 p.K.length y1) := by rw [hwm, hb7, new_at rfl]; rfl
      have hRm := Lib.hid (hR.out.next (hbm.mono hR.out.size))
      have hSm := Lib.hid (hS.out.below hbm hS.out.lt)
      have hGm := Lib.hid (hG.out.grow hbm)
      have hOm : Hid (rv.ownBlock ≠ some b7) := Lib.hid fun q => by have := (hG.out.own.row.lt b7 q).2; omega
      obtain ⟨a', c', ev, -, hcell⟩ := RP.out.fst.opened
      obtain ⟨rfl, rfl⟩ : a' = x1 ∧ c' = y1 := by simpa using ev.symm
      obtain ⟨nk, hnk⟩ : ∃ q, q = p.K.length := ⟨_, rfl⟩
      have hk10 : nk ≤ 10 := by rw [hnk]; exact (Ls.ok_bd HPO.out).2.2.2.2.2.2.1
      rw [← hnk] at k73 hcell hwm
      have HNK := Lib.hid hnk
      have HC2 : Hid (0 < nk → ∃ g, a' = some ⟨g, 0, none⟩ ∧ g < w.heap.size ∧ ∀ q z, (flat2 p.K)[q]? = some z → w.cell? ⟨g, q, none⟩ = some (.int .i64 z)) := Lib.hid fun h => by
        obtain ⟨g, h1, h2, h3⟩ := hcell h
        have hgw : g < w.heap.size := by omega
        exact ⟨g, h1, hgw, fun q z hz => ((hR.out.below.cell (p := ⟨g, q, none⟩) hgw).symm).trans (h3 q z hz)⟩
      have HL0 : Hid (gpre D (D.take k) ++ gel D p.o (p.K.take 0) = gpre D (D.take k)) := Lib.hid (by rw [List.take_zero]; simp [gel])
      have HLN : Hid (gpre D (D.take k) ++ gel D p.o p.K = gpre D (D.take (k + 1))) := Lib.hid (gpre_snoc Hp.out).symm
      have HGL : Hid (∀ j, (gpre D (D.take k) ++ gel D p.o (p.K.take j)).length ≤ 110) := Lib.hid fun j => by
        have h1 := HG1.out k
        have h2 := gel_len D p.o (p.K.take j)
        rw [List.length_take] at h2
        rw [List.length_append]
        have := HNK.out
        omega
      have hXb : qb.heap.size < b7 := by rw [hb7]; exact hG.out.hx
      go_upto_region 8 with (fail)
      rw [← hnk, ← hwm, ← hb7]
      clear hcell RP hR hS hG hbm hwm hb7 d1 d2 d3 d4 d5 d0 hsz hsz0 z1 z2 hnk hbz hGw
      go_wp2_with fail
      go_loopw [27] (fun i wx => ∃ (j : Nat) (rv : Value), j ≤ nk ∧ i = .int .i64 (j : Int) ∧ Hid (G2 w wx (.slice (some ⟨G, 0, none⟩) n c)) ∧ Hid (Shelf wx m w1.heap.size (dfind D)) ∧ Hid (GX qb wx rv (gpre D (D.take k) ++ gel D p.o (p.K.take j))) ∧ Hid (wx.cell? ⟨b7, 0, none⟩ = some (.int .i64 p.o) ∧ b7 < wx.heap.size) ∧ Hid (rv.ownBlock ≠ some b7)) (fun i _ => nk - (intOf i).toNat)
      case atStart => exact ⟨0, _, Nat.zero_le _, rfl, hRm, hSm, Lib.hid (by rw [HL0.out]; exact hGm.out), k7, hOm⟩
      case round =>
        clear hRm hSm hGm k7 hOm k73
        obtain ⟨j, rv, hj, rfl, hR, hS, hG, hB7, hO⟩ := hrel
        by_cases hlj : j < nk
        · obtain ⟨g, rfl, hgw, hcell⟩ := HC2.out (by omega)
          obtain ⟨r, hrk⟩ : ∃ r, p.K[j]? = some r := ⟨p.K[j]'(by have := HNK.out; omega), List.getElem?_eq_getElem _⟩
          obtain ⟨r0, r1⟩ := flat2_at p.K j _ hrk
          have s0 : wr.cell? ⟨g, j * 2, none⟩ = some (.int .i64 r.1) := (hR.out.below.cell (p := ⟨g, j * 2, none⟩) hgw).trans (hcell _ _ r0)
          have s1 : wr.cell? ⟨g, j * 2 + 1, none⟩ = some (.int .i64 r.2) := (hR.out.below.cell (p := ⟨g, j * 2 + 1, none⟩) hgw).trans (hcell _ _ r1)
          have HRK := Lib.hid hrk
          have j0 : (0 : Int) ≤ (j : Int) := by omega
          have j1 : (j : Int) < (nk : Int) := by omega
          clear r0 r1 hrk hcell
          obtain ⟨w8, hw8⟩ : ∃ q, q = wr.alloc (.cells #[.int .i64 r.1, .int .i64 r.2] 75) := ⟨_, rfl⟩
          have hb8 : Below wr.heap.size wr w8 := by rw [hw8]; go_grown
          obtain ⟨b9, hb9⟩ : ∃ q, q = wr.heap.size := ⟨_, rfl⟩
          have t0 : w8.cell? ⟨b9, 0, none⟩ = some (.int .i64 r.1) := by rw [hw8, hb9, new_at rfl]; rfl
          have t1 : w8.cell? ⟨b9, 1, none⟩ = some (.int .i64 r.2) := by rw [hw8, hb9, new_at rfl]; rfl
          have t2 : b9 < w8.heap.size := by rw [hw8, hb9]; simp
          have k8 : w8.cell? ⟨b7, 0, none⟩ = some (.int .i64 p.o) := ((bcell hb8).1 _ _ hB7.out.2).trans hB7.out.1
          have k8z : b7 < w8.heap.size := Nat.lt_of_lt_of_le hB7.out.2 hb8.size
          have hR8 := Lib.hid (hR.out.next (hb8.mono hR.out.size))
          have hS8 := Lib.hid (hS.out.below hb8 hS.out.lt)
          have hG8 := Lib.hid (hG.out.grow hb8)
          obtain ⟨f, qu, qy, l8, h8, sm, sv, sr, sB⟩ := hS8.out.look r.1
          have SM := Lib.hid sm
          have HSY : Hid (says D r.1 p.o = anyTo ((dfind D r.1).getD l0).K p.o) := Lib.hid says_find
          have hq10 : ((dfind D r.1).getD l0).K.length ≤ 1000000 := by
            cases hf : dfind D r.1 with
            | none => exact Nat.zero_le _
            | some l =>
              obtain ⟨_, i, hi⟩ := dfind_some hf
              have := (Ls.ok_bd (dokB_get HV.out hi).1).2.2.2.2.2.2.1
              show l.K.length ≤ 1000000
              omega
          obtain ⟨q, hq⟩ : ∃ q, q = (dfind D r.1).getD l0 := ⟨_, rfl⟩
          rw [← hq] at sv sr HSY hq10
          have SV : Hid ((f r.1).getD (.agg #[.int .i64 0, .int .i64 0, .int .i64 0, .slice none 0 0, .slice none 0 0]) = .agg #[.int .i64 q.o, .int .i64 q.s, .int .i64 q.g, qu, qy]) := Lib.hid sv
          have SR := Lib.hid sr
          have h8z : h8 ≤ w8.heap.size := by have := hS8.out.lt; have := HMX.out; omega
          clear sm sv sr hq
          go_upto_region 11 with (fail)
          rw [← hw8, ← hb9]
          clear hw8 hb9 hb8 hR hS hG hB7 s0 s1
          cases hsy : says D r.1 p.o
          · have HSZ : Hid (anyTo q.K p.o = false) := Lib.hid (by rw [← HSY.out]; exact hsy)
            have HGN := Lib.hid (gel_no HRK.out hsy)
            clear hsy
            go_wp2_with (at_lookup; refine wpList_lookup_I _ rfl _ _ 82 false rfl 3 33 Try.underlying82 Try.underlying3 (.agg #[.int .i64 0, .int .i64 0, .int .i64 0, .slice none 0 0, .slice none 0 0]) (HZV.out _) m f rfl SM.out r.1 rfl (.agg #[.int .i64 q.o, .int .i64 q.s, .int .i64 q.g, qu, qy]) SV.out ?_)
            go_at_call 82
            refine (linksTo_any q p.o l8 h8 qu qy _ SR.out h8z hq10).mono ?_
            rw [HSZ.out]
            rintro e w9 ⟨rfl, hb9⟩
            have hR9 := Lib.hid (hR8.out.next (hb9.mono hR8.out.size))
            have hS9 := Lib.hid (hS8.out.below hb9 hS8.out.lt)
            have hG9 := Lib.hid (hG8.out.grow hb9)
            have k9 : Hid (w9.cell? ⟨b7, 0, none⟩ = some (.int .i64 p.o) ∧ b7 < w9.heap.size) := Lib.hid ⟨((bcell hb9).1 _ _ k8z).trans k8, Nat.lt_of_lt_of_le k8z hb9.size⟩
            clear hb9
            go_wp2_with fail
            go_roundw
            case rel => exact ⟨j + 1, _, by omega, by go_num, hR9, hS9, Lib.hid (by rw [HGN.out]; exact hG9.out), k9, hO⟩
            case measure => simp [intOf]; omega
          · have HSZ : Hid (anyTo q.K p.o = true) := Lib.hid (by rw [← HSY.out]; exact hsy)
            have HGN := Lib.hid (gel_yes HRK.out hsy)
            clear hsy
            go_wp2_with (at_lookup; refine wpList_lookup_I _ rfl _ _ 82 false rfl 3 33 Try.underlying82 Try.underlying3 (.agg #[.int .i64 0, .int .i64 0, .int .i64 0, .slice none 0 0, .slice none 0 0]) (HZV.out _) m f rfl SM.out r.1 rfl (.agg #[.int .i64 q.o, .int .i64 q.s, .int .i64 q.g, qu, qy]) SV.out ?_)
            go_at_call 82
            refine (linksTo_any q p.o l8 h8 qu qy _ SR.out h8z hq10).mono ?_
            rw [HSZ.out]
            rintro e w9 ⟨rfl, hb9⟩
            have hR9 := Lib.hid (hR8.out.next (hb9.mono hR8.out.size))
            have hS9 := Lib.hid (hS8.out.below hb9 hS8.out.lt)
            have HG9 := Lib.hid (hG8.out.grow hb9)
            have k9 : w9.cell? ⟨b7, 0, none⟩ = some (.int .i64 p.o) := ((bcell hb9).1 _ _ k8z).trans k8
            have k9z : b7 < w9.heap.size := Nat.lt_of_lt_of_le k8z hb9.size
            have v0 : w9.cell? ⟨b9, 0, none⟩ = some (.int .i64 r.1) := ((bcell hb9).1 _ _ t2).trans t0
            have v1 : w9.cell? ⟨b9, 1, none⟩ = some (.int .i64 r.2) := ((bcell hb9).1 _ _ t2).trans t1
            obtain ⟨L, hL⟩ : ∃ L, L = gpre D (D.take k) ++ gel D p.o (p.K.take j) := ⟨_, rfl⟩
            have HLE : Hid (L ++ [(p.o, r.1, r.2)] = gpre D (D.take k) ++ gel D p.o (p.K.take (j + 1))) := Lib.hid (by rw [HGN.out, hL, List.append_assoc])
            have hll : L.length ≤ 110 := by rw [hL]; exact HGL.out j
            rw [← hL] at HG9
            obtain ⟨ya, yc, erv⟩ := HG9.out.own.slice
            subst erv
            obtain ⟨yn, hyn⟩ : ∃ q, q = L.length := ⟨_, rfl⟩
            rw [← hyn] at HG9 hll hO
            have HYN := Lib.hid hyn
            have HWo : Hid (w9.ownsRow qb.heap.size 105 3 (.slice ya yn yc) yn (ints (flat L))) := Lib.hid (by have h := HG9.out.own.row; rw [← hyn] at h; exact h)
            have y1 := HG9.out.x1
            have yx := HG9.out.hx
            clear hb9 hL hyn hR8 hS8 hG8 t0 t1 k8
            go_wp2_with (at_builtin; refine wpList_append_lies _ rfl _ _ 66 rfl qb.heap.size 105 iE (.agg #[.int .i64 0, .int .i64 0, .int .i64 0]) 3 24 Try.underlying66 IE.out.1 IE.out.2.1 IE.out.2.2.1 IE.out.2.2.2 rfl (by decide) (.slice ya yn yc) yn (ints (flat L)) rfl (HWo.out.alloc _) ⟨w9.heap.size, 0, none⟩ 1 1 [.int .i64 p.o, .int .i64 r.1, .int .i64 r.2] rfl rfl (fun j u hj => cell_three_new w9 _ _ _ 105 j u hj) (ints_one3 _ _ _) (by decide) (by unfold maxLen; omega) (by omega) (by have := HG9.out.hx; simp; omega) _ rfl ?_; intro g4 cap4 w4 hown4 hgrow4 hat4 hlt4; obtain ⟨u1, u2, u3, u4, u5, u7, u6⟩ := HG9.out.app (by rw [HYN.out]) hgrow4 hown4 hat4)
            have kk : Hid ((w4.setCell ⟨qb.heap.size, 1, none⟩ (.slice (some ⟨g4, 0, none⟩) (yn + 1) cap4)).cell? ⟨b7, 0, none⟩ = some (.int .i64 p.o) ∧ b7 < (w4.setCell ⟨qb.heap.size, 1, none⟩ (.slice (some ⟨g4, 0, none⟩) (yn + 1) cap4)).heap.size) := Lib.hid ⟨by
              rw [World.cell?_setCell_other _ _ _ _ (by simp <;> omega), World.cell?_of_block (w := w9) (a := ⟨b7, 0, none⟩) (u4 _ k9z hO.out)]; exact k9, by simp [World.setCell]; omega⟩
            have hO4 : Hid ((Value.slice (some ⟨g4, 0, none⟩) (yn + 1) cap4).ownBlock ≠ some b7) := Lib.hid fun q => by
              have e : g4 = b7 := by simpa [Value.ownBlock] using q
              rcases hat4 with h | h
              · exact hO.out (by rw [h, e])
              · simp at h; omega
            have hR4 := Lib.hid (hR9.out.next (u7.mono HMX.out.2.1))
            have hS4 := Lib.hid (hS9.out.below u7 HMX.out.1)
            have HG4 : Hid (GX qb (w4.setCell ⟨qb.heap.size, 1, none⟩ (.slice (some ⟨g4, 0, none⟩) (yn + 1) cap4)) (.slice (some ⟨g4, 0, none⟩) (yn + 1) cap4) (gpre D (D.take k) ++ gel D p.o (p.K.take (j + 1)))) := Lib.hid (by rw [← HLE.out]; exact u6)
            clear u1 u2 u3 u4 u5 u6 u7 hown4 hgrow4 hat4 hlt4
            go_wp2_with fail
            go_roundw
            case rel => exact ⟨j + 1, _, by omega, by go_num, hR4, hS4, HG4, kk, hO4⟩
            case measure => simp [intOf]; omega
        · have hge : ¬ ((j : Int) < (nk : Int)) := by omega
          have HE : Hid (gpre D (D.take k) ++ gel D p.o (p.K.take j) = gpre D (D.take (k + 1))) := Lib.hid (by
            have e : p.K.take j = p.K := List.take_of_length_le (by have := HNK.out; omega)
            rw [e]; exact HLN.out)
          have hG2 := Lib.hid (HE.out ▸ hG.out)
          clear hG HE
          go_wp2_with fail
          go_roundw
          case rel => exact ⟨k + 1, _, by omega, by go_num, hR, hS, hG2⟩
          case measure => simp [intOf]; omega
    · have hge : ¬ ((k : Int) < (n : Int)) := by omega
      have HGO := Lib.hid (HGE.out k (by have := HN.out; omega))
      have hG2 : Hid (GX qb wr rv (gout D)) := Lib.hid (by have h := hG.out; rw [HGO.out] at h; exact h)
      have hll := HG1.out k
      rw [HGO.out] at hll
      obtain ⟨ya, yc, erv⟩ := hG2.out.own.slice
      subst erv
      obtain ⟨yn, hyn⟩ : ∃ q, q = (gout D).length := ⟨_, rfl⟩
      rw [← hyn] at hG2 hll HOO
      have HYN := Lib.hid hyn
      have y0 := hG2.out.x0
      have y1 := hG2.out.x1
      have yx := hG2.out.hx
      have HRW := Lib.hid (row_of_own hG2.out.own.row (by omega))
      clear hyn hG
      have c0_ := hR.out.c0
      have r0_ := hR.out.r0
      have r1_ := hR.out.r1
      have f0_ := hR.out.f0
      have f1_ := hR.out.f1
      have size_ := hR.out.size
      have hw0_ : w.heap.size < wr.heap.size := by omega
      have hw1_ : w.heap.size + 1 < wr.heap.size := by omega

      have hmx := HMX.out.2.1
      by_cases h60 : yn ≤ 60
      · have HO : Hid (gfO D = true) := Lib.hid (by rw [HOO.out]; exact decide_eq_true h60)
        have g60 : ¬ ((60 : Int) < (yn : Int)) := by omega
        go_wp2_with fail
        refine bodyPost_ret (v := .tuple #[.agg #[.int .i64 10, .slice ya yn yc], .bool true]) (by simp [results, Try.results43, go_sem, *]) rfl (gP (.slice ya yn yc) (by rw [HO.out, (gf_yes HO.out).1]) ?_ ?_)
        · rw [(gf_yes HO.out).2, ← HYN.out]
          have h := HRW.out
          rw [← HYN.out] at h
          exact (((h.setCell (.inl (by simp <;> omega)) _).setCell (.inl (by simp <;> omega)) _).wide (by omega) (by simp [World.setCell]))
        · exact ((hR.out.below.setCell (by simp <;> omega) _).setCell (by simp <;> omega) _)
      · have HO : Hid (gfO D = false) := Lib.hid (by rw [HOO.out]; exact decide_eq_false h60)
        have g60 : (60 : Int) < (yn : Int) := by omega
        go_wp2_with fail
        refine bodyPost_ret (v := .tuple #[.agg #[.int .i64 0, .slice none 0 0], .bool false]) (by simp [results, Try.results43, go_sem, *]) rfl (gP (.slice none 0 0) (by rw [HO.out, (gf_no HO.out).1]) ?_ ?_)
        · rw [(gf_no HO.out).2]; exact ⟨rfl, .inl ⟨rfl, none, 0, rfl⟩⟩
        · exact ((hR.out.below.setCell (by simp <;> omega) _).setCell (by simp <;> omega) _)


end Go.Proofs.Ytfpafjdakipccaa
