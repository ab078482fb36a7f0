/- Draws: a prefix. -/
import Derived.Test.YtgdnfglhlpnooaaDq
import Derived.Test.YtgdnfglhlpnooaaSp
import Derived.Deep.RegionLaw
import Derived.Deep.DeepCutAuto
namespace Go.Proofs.Ytgdnfglhlpnooaa
open Go.RowKit

theorem Cur.below {w w' : World} {C : Nat} {a : Option Addr} {n cp i : Nat} (h : Cur w C a n cp i) (b : Below w.heap.size w w') : Cur w' C a n cp i := by
  obtain ⟨q, hq⟩ := h.c2
  exact h.keep (Else.of_below b) h.le.1 (by rw [b.cell (p := ⟨C, 0, none⟩) h.lt]; exact h.c0) (by rw [b.cell (p := ⟨C, 1, none⟩) h.lt]; exact h.c1) ⟨q, by rw [b.cell (p := ⟨C, 2, none⟩) h.lt]; exact hq⟩ (fun o => by rw [b.frozen (p := ⟨C, o, none⟩) h.lt]; exact h.frz o)
theorem Else.set' {C X : Nat} {w w' : World} (h : Else C w w') (hX : w.heap.size ≤ X) (j : Nat) (u : Value) : Else C w (w'.setCell ⟨X, j, none⟩ u) :=
  ⟨h.1, h.2.1, h.2.2.1, by simpa [World.setCell] using h.2.2.2.1, fun b hb hn => (Below.heap_setCell _ _ _ _ (show b ≠ X by omega)).trans (h.2.2.2.2 b hb hn)⟩
theorem Cur.far {w wr : World} {C n cp i E j : Nat} {a : Option Addr} {u : Value} (hc : Cur wr C a n cp i) (old : ∀ p : Addr, a = some p → p.block < w.heap.size) (hC : C < w.heap.size) (hE : w.heap.size ≤ E) : Cur (wr.setCell ⟨E, j, none⟩ u) C a n cp i := by
  have bk : ∀ b, b ≠ E → (wr.setCell ⟨E, j, none⟩ u).heap[b]? = wr.heap[b]? := fun b hb => Below.heap_setCell _ _ _ _ hb
  have sz : (wr.setCell ⟨E, j, none⟩ u).heap.size = wr.heap.size := by simp [World.setCell]
  obtain ⟨q, hq⟩ := hc.c2
  have cc : ∀ b o', b ≠ E → (wr.setCell ⟨E, j, none⟩ u).cell? ⟨b, o', none⟩ = wr.cell? ⟨b, o', none⟩ := fun b o' hb => World.cell?_of_block (w := wr) (a := ⟨b, o', none⟩) (bk b hb)
  refine ⟨by rw [cc C _ (by omega)]; exact hc.c0, by rw [cc C _ (by omega)]; exact hc.c1, ⟨q, by rw [cc C _ (by omega)]; exact hq⟩, fun o' => by rw [World.frozen?_of_block (w := wr) (a := ⟨C, o', none⟩) (bk C (by omega))]; exact hc.frz o', by rw [sz]; exact hc.lt, hc.le, fun hn => ?_⟩
  obtain ⟨b, off, e1, e2, e3, e4⟩ := hc.bytes hn
  have hb : b < w.heap.size := old _ e1
  refine ⟨b, off, e1, by rw [sz]; exact e2, e3, fun x hx => ?_⟩
  obtain ⟨z, h5, h6⟩ := e4 x hx
  exact ⟨z, by rw [cc b _ (by omega)]; exact h5, h6⟩
/-- What is known while a prefix is drawn: R the result's cells, X the prefix's. -/
structure DpK (w : World) (C : Nat) (a : Option Addr) (n cp X : Nat) (y0 y1 : Int) (wr : World) : Prop where
  old : ∀ p : Addr, a = some p → p.block < w.heap.size
  cur : ∃ i, Cur wr C a n cp i
  els : Else C w wr
  hC : C < w.heap.size
  hX : w.heap.size < X ∧ X < wr.heap.size
  r0 : wr.cell? ⟨w.heap.size, 0, none⟩ = some (.int .i64 0)
  r1 : wr.cell? ⟨w.heap.size, 1, none⟩ = some (.int .i64 0)
  rf : ∀ o, wr.frozen? ⟨w.heap.size, o, none⟩ = false
  x0 : wr.cell? ⟨X, 0, none⟩ = some (.int .i64 y0)
  x1 : wr.cell? ⟨X, 1, none⟩ = some (.int .i64 y1)
  xf : ∀ o, wr.frozen? ⟨X, o, none⟩ = false
theorem DpK.on {w wr w2 : World} {C n cp X : Nat} {a : Option Addr} {y0 y1 : Int} (h : DpK w C a n cp X y0 y1 wr) (hc : ∃ i, Cur w2 C a n cp i) (he : Else C wr w2) : DpK w C a n cp X y0 y1 w2 := by
  have hX := h.hX; have hC := h.hC; have sz := he.2.2.2.1
  refine ⟨h.old, hc, h.els.trans he, hC, ⟨hX.1, by omega⟩, ?_, ?_, fun o => ?_, ?_, ?_, fun o => ?_⟩
  · rw [he.cell (by omega) (by omega)]; exact h.r0
  · rw [he.cell (by omega) (by omega)]; exact h.r1
  · rw [World.frozen?_of_block (w := wr) (a := ⟨w.heap.size, o, none⟩) (he.2.2.2.2 w.heap.size (by omega) (by omega))]; exact h.rf o
  · rw [he.cell hX.2 (by omega)]; exact h.x0
  · rw [he.cell hX.2 (by omega)]; exact h.x1
  · rw [World.frozen?_of_block (w := wr) (a := ⟨X, o, none⟩) (he.2.2.2.2 X hX.2 (by omega))]; exact h.xf o
theorem DpK.grow {w wr w2 : World} {C n cp X : Nat} {a : Option Addr} {y0 y1 : Int} (h : DpK w C a n cp X y0 y1 wr) (b : Below wr.heap.size wr w2) : DpK w C a n cp X y0 y1 w2 := by
  obtain ⟨i, hc⟩ := h.cur
  exact h.on ⟨i, hc.below b⟩ (Else.of_below b)
theorem DpK.set0 {w wr : World} {C n cp X : Nat} {a : Option Addr} {y0 y1 : Int} (h : DpK w C a n cp X y0 y1 wr) (z : Int) : DpK w C a n cp X z y1 (wr.setCell ⟨X, 0, none⟩ (.int .i64 z)) := by
  have hX := h.hX; have hC := h.hC
  obtain ⟨i, hc⟩ := h.cur
  exact ⟨h.old, ⟨i, hc.far h.old hC (by omega)⟩, h.els.set' (by omega) 0 _, hC, ⟨hX.1, by simpa [World.setCell] using hX.2⟩, by rw [World.cell?_setCell_other _ _ _ _ (by simp; try omega)]; exact h.r0, by rw [World.cell?_setCell_other _ _ _ _ (by simp; try omega)]; exact h.r1, fun o => by simpa using h.rf o, World.cell?_setCell_same _ _ _ h.x0, by rw [World.cell?_setCell_other _ _ _ _ (by simp)]; exact h.x1, fun o => by simpa using h.xf o⟩
theorem DpK.set1 {w wr : World} {C n cp X : Nat} {a : Option Addr} {y0 y1 : Int} (h : DpK w C a n cp X y0 y1 wr) (z : Int) : DpK w C a n cp X y0 z (wr.setCell ⟨X, 1, none⟩ (.int .i64 z)) := by
  have hX := h.hX; have hC := h.hC
  obtain ⟨i, hc⟩ := h.cur
  exact ⟨h.old, ⟨i, hc.far h.old hC (by omega)⟩, h.els.set' (by omega) 1 _, hC, ⟨hX.1, by simpa [World.setCell] using hX.2⟩, by rw [World.cell?_setCell_other _ _ _ _ (by simp; try omega)]; exact h.r0, by rw [World.cell?_setCell_other _ _ _ _ (by simp; try omega)]; exact h.r1, fun o => by simpa using h.rf o, by rw [World.cell?_setCell_other _ _ _ _ (by simp)]; exact h.x0, World.cell?_setCell_same _ _ _ h.x1, fun o => by simpa using h.xf o⟩
theorem res2 {w : World} {R : Nat} {u v x y : Value} (h0 : w.cell? ⟨R, 0, none⟩ = some x) (h1 : w.cell? ⟨R, 1, none⟩ = some y) : ((w.setCell ⟨R, 0, none⟩ u).setCell ⟨R, 1, none⟩ v).cell? ⟨R, 0, none⟩ = some u ∧ ((w.setCell ⟨R, 0, none⟩ u).setCell ⟨R, 1, none⟩ v).cell? ⟨R, 1, none⟩ = some v :=
  ⟨by rw [World.cell?_setCell_other _ _ _ _ (by simp)]; exact World.cell?_setCell_same _ _ _ h0, World.cell?_setCell_same _ _ _ (by rw [World.cell?_setCell_other _ _ _ _ (by simp)]; exact h1)⟩
def DpPost (w : World) (C : Nat) (a : Option Addr) (n cp : Nat) (e : Ending) (w' : World) : Prop := (∃ p q : Int, e = .returned (.agg #[.int .i64 p, .int .i64 q])) ∧ CurPost w C a n cp w'
theorem DpK.done {w wr : World} {C n cp X : Nat} {a : Option Addr} {y0 y1 : Int} (h : DpK w C a n cp X y0 y1 wr) (u v : Value) : CurPost w C a n cp ((wr.setCell ⟨w.heap.size, 0, none⟩ u).setCell ⟨w.heap.size, 1, none⟩ v) := by
  have hX := h.hX; have hC := h.hC
  obtain ⟨i, hc⟩ := h.cur
  exact ⟨⟨i, (hc.far h.old hC (Nat.le_refl _)).far h.old hC (Nat.le_refl _)⟩, (h.els.set' (Nat.le_refl _) 0 u).set' (Nat.le_refl _) 1 v⟩
theorem list_at (w : World) (Z : List Int) (T : TypeId) : ListAt (w.alloc (.cells (ints Z).toArray T)) w.heap.size Z := ⟨by simp, fun q z hz => by
  rw [new_at rfl]
  simpa using ints_at hz⟩

set_option maxRecDepth 100000 in
set_option maxHeartbeats 4000000 in
theorem dpref_any (C n cp i : Nat) (a : Option Addr) (w : World) (h : Cur w C a n cp i) (old : ∀ p : Addr, a = some p → p.block < w.heap.size) :
    Calls Try.prog 106 #[.pointer (some ⟨C, 0, none⟩)] w (DpPost w C a n cp) := by
  have HC := Lib.hid h
  have Hold := Lib.hid old
  have hCl := h.lt
  clear h old
  go_enter Try.func106, Try.ntmps106
  go_wp2_with fail
  obtain ⟨wa, hwa⟩ : ∃ qq, qq = w.alloc (.cells #[.int .i64 0, .int .i64 0] 34) := ⟨_, rfl⟩
  have hba : Below w.heap.size w wa := by rw [hwa]; go_grown
  have sza : wa.heap.size = w.heap.size + 1 := by rw [hwa]; simp
  have ra0 : wa.cell? ⟨w.heap.size, 0, none⟩ = some (.int .i64 0) := by rw [hwa]; simp
  have ra1 : wa.cell? ⟨w.heap.size, 1, none⟩ = some (.int .i64 0) := by rw [hwa]; simp
  have raf : ∀ o, wa.frozen? ⟨w.heap.size, o, none⟩ = false := fun o => by rw [hwa]; simp
  have ca := HC.out.below hba
  rw [← hwa]
  clear hwa
  go_at_call 67
  refine (below_any C a n cp _ 17 _ ca (by omega)).mono ?_
  rintro e w1 ⟨⟨x, rfl, x0, x1, x2⟩, ⟨iw1, cw1⟩, ew1⟩
  go_wp2_with fail
  go_at_call 67
  refine (below_any C a n cp _ 9 _ cw1 (by omega)).mono ?_
  rintro e w2 ⟨⟨t, rfl, t0, t1, t2⟩, ⟨iw2, cw2⟩, ew2⟩
  have t3 := t1 (by omega)
  have x3 := x1 (by omega)
  have ey : IntKind.i64.wrap (8 + t) = 8 + t := IntWalk.i64_in _ (by omega)
  go_wp2_with fail
  go_at_call 67
  refine (below_any C a n cp _ 9 _ cw2 (by omega)).mono ?_
  rintro e w3 ⟨⟨z, rfl, z0, z1, z2⟩, ⟨iw3, cw3⟩, ew3⟩
  have z3 := z1 (by omega)
  have ez : IntKind.i64.wrap (8 + z) = 8 + z := IntWalk.i64_in _ (by omega)
  clear x1 x2 t1 t2 z1 z2
  go_wp2_with fail
  obtain ⟨w4, hw4⟩ : ∃ qq, qq = w3.alloc (.cells #[.int .i64 0, .int .i64 1, .int .i64 4, .int .i64 8, .int .i64 12, .int .i64 15, .int .i64 16, .int .i64 x, .int .i64 (8 + t), .int .i64 (8 + z)] 3) := ⟨_, rfl⟩
  have hb4 : Below w3.heap.size w3 w4 := by rw [hw4]; go_grown
  have hL4 : ListAt w4 w3.heap.size [0, 1, 4, 8, 12, 15, 16, x, 8 + t, 8 + z] := by rw [hw4]; exact list_at w3 [0, 1, 4, 8, 12, 15, 16, x, 8 + t, 8 + z] 3
  have c4 := cw3.below hb4
  have ne4 := cw3.lt
  rw [← hw4]
  clear hw4
  go_at_call 66
  refine (pick_any C a n cp _ w3.heap.size 10 10 [0, 1, 4, 8, 12, 15, 16, x, 8 + t, 8 + z] _ c4 (by omega) (by omega) rfl hL4 (by omega)).mono ?_
  rintro e w5 ⟨⟨nn, rfl, hm⟩, ⟨i5, c5⟩, e5⟩
  have n0 : 0 ≤ nn ∧ nn ≤ 16 := by
    simp only [List.mem_cons, List.not_mem_nil, or_false] at hm
    omega
  have hps := psz_pos nn n0.1 n0.2
  clear hm hL4 c4
  have E5 := Lib.hid ((((ew1.trans ew2).trans ew3).trans (Else.of_below hb4)).trans e5)
  clear ew1 ew2 ew3 e5 hb4 ca cw1 cw2 cw3 ey ez
  go_wp2_with fail
  go_at_call 67
  refine (below_any C a n cp _ 65536 _ c5 (by omega)).mono ?_
  rintro e w6 ⟨⟨p, rfl, p0, p1, p2⟩, ⟨iw6, cw6⟩, ew6⟩
  go_wp2_with fail
  go_at_call 67
  refine (below_any C a n cp _ 2048 _ cw6 (by omega)).mono ?_
  rintro e w7 ⟨⟨q, rfl, q0, q1, q2⟩, ⟨iw7, cw7⟩, ew7⟩
  clear p1 p2 q1 q2
  go_wp2_with fail
  obtain ⟨w8, hw8⟩ : ∃ qq, qq = w7.alloc (.cells #[.int .i64 0, .int .i64 2560, .int .i64 p, .int .i64 q] 3) := ⟨_, rfl⟩
  have hb8 : Below w7.heap.size w7 w8 := by rw [hw8]; go_grown
  have hL8 : ListAt w8 w7.heap.size [0, 2560, p, q] := by rw [hw8]; exact list_at w7 [0, 2560, p, q] 3
  have c8 := cw7.below hb8
  have ne8 := cw7.lt
  rw [← hw8]
  clear hw8
  go_at_call 66
  refine (pick_any C a n cp _ w7.heap.size 4 4 [0, 2560, p, q] _ c8 (by omega) (by omega) rfl hL8 (by omega)).mono ?_
  rintro e w9 ⟨⟨y, rfl, -⟩, ⟨i9, c9⟩, e9⟩
  have E9 := Lib.hid ((((E5.out.trans ew6).trans ew7).trans (Else.of_below hb8)).trans e9)
  clear hL8 c8 ew6 ew7 e9 hb8 E5 c5 cw6 cw7
  have sz9 := E9.out.2.2.2.1
  have DK0 : Hid (DpK w C a n cp w9.heap.size y nn (w9.alloc (.cells #[.int .i64 y, .int .i64 nn] 34))) := by
    have hb : Below w9.heap.size w9 (w9.alloc (.cells #[.int .i64 y, .int .i64 nn] 34)) := by go_grown
    have he := E9.out.trans (Else.of_below hb)
    have hne : w.heap.size ≠ C := by omega
    exact ⟨Hold.out, ⟨_, c9.below hb⟩, (Else.of_below hba).trans he, hCl, ⟨by omega, by simp⟩, by rw [he.cell (by omega) hne]; exact ra0, by rw [he.cell (by omega) hne]; exact ra1, fun o => by rw [World.frozen?_of_block (w := wa) (a := ⟨w.heap.size, o, none⟩) (he.2.2.2.2 w.heap.size (by omega) hne)]; exact raf o, by simp, by simp, fun o => by simp⟩
  clear ra0 ra1 raf E9 c9
  obtain ⟨w10, hw10⟩ : ∃ qq, qq = w9.alloc (.cells #[.int .i64 y, .int .i64 nn] 34) := ⟨_, rfl⟩
  rw [← hw10] at DK0
  have a0 := DK0.out.x0
  have f0 := DK0.out.xf 0
  have hne : (psz nn == 0) = false := by simp; omega
  have hne2 : psz nn ≠ 0 := by omega
  go_upto_region 3 with fail
  rw [← hw10]
  clear hw10
  go_cut [4] (fun s4 wx => ∃ (X : Nat) (yy mm : Int), s4 = .pointer (some ⟨X, 0, none⟩) ∧ Hid (DpK w C a n cp X yy mm wx))
  case first =>
    go_wp2_with fail
    go_region_law (go_simp; go_at_call 71; refine (spsize_any _ _ n0.1 n0.2).mono ?_; rintro e w11 ⟨rfl, rfl⟩)
    all_goals
      clear a0 f0
      generalize IntKind.i64.wrap (y - y.tmod (psz nn)) = yy
      have DK1 : Hid (DpK w C a n cp w9.heap.size yy nn ((w10.setCell ⟨w9.heap.size, 0, none⟩ (.int .i64 yy)).drew)) := (DK0.out.set0 yy).grow (Below.refl _ _).drew
      go_wp2_with fail
      go_meet
      exact ⟨_, yy, nn, rfl, DK1⟩
  case rest =>
    obtain ⟨X, yy, mm, rfl, DK1⟩ := hcut
    obtain ⟨w12, rfl⟩ : ∃ x, x = wc := ⟨_, rfl⟩
    clear DK0 a0 f0
    obtain ⟨j12, c12⟩ := DK1.out.cur
    go_wp2_with fail
    go_at_call 87
    refine (once_any C a n cp j12 30 _ c12 (by omega)).mono ?_
    rintro e w13 ⟨⟨bo, rfl⟩, k13, e13⟩
    have DK2 := Lib.hid (DK1.out.on k13 e13)
    clear c12 k13 e13 DK1
    cases bo with
    | false =>
      have q0 := DK2.out.x0
      have q1 := DK2.out.x1
      have s0 := DK2.out.r0
      have s1 := DK2.out.r1
      have g0 := DK2.out.rf 0
      have g1 := DK2.out.rf 1
      have HE := Lib.hid (DK2.out.done (.int .i64 yy) (.int .i64 mm))
      obtain ⟨u0, u1⟩ := res2 (u := .int .i64 yy) (v := .int .i64 mm) s0 s1
      clear DK2
      go_wp2_with fail
      exact bodyPost_ret (v := .agg #[.int .i64 yy, .int .i64 mm]) (by simp [results, Try.results106, go_sem, u0, u1]) rfl ⟨⟨_, _, rfl⟩, HE.out⟩
    | true =>
      obtain ⟨j13, c13⟩ := DK2.out.cur
      go_wp2_with fail
      go_at_call 67
      refine (below_any C a n cp j13 3 _ c13 (by omega)).mono ?_
      rintro e w14 ⟨⟨d, rfl, d0, d1, -⟩, k14, e14⟩
      have d2 := d1 (by omega)
      have DK3 := Lib.hid (DK2.out.on k14 e14)
      clear c13 k14 e14 d1 DK2
      have hd : d = 0 ∨ d = 1 ∨ d = 2 := by omega
      clear d0 d2
      rcases hd with rfl | rfl | rfl
      · go_wp2_with fail
        obtain ⟨w15, hw15⟩ : ∃ qq, qq = w14.alloc (.cells #[.int .i64 (-1), .int .i64 17, .int .i64 3] 3) := ⟨_, rfl⟩
        have hb15 : Below w14.heap.size w14 w15 := by rw [hw15]; go_grown
        have hL15 : ListAt w15 w14.heap.size [-1, 17, 3] := by rw [hw15]; exact list_at w14 [-1, 17, 3] 3
        have DK4 := Lib.hid (DK3.out.grow hb15)
        obtain ⟨j14, c14⟩ := DK3.out.cur
        have ne14 := c14.lt
        obtain ⟨j15, c15⟩ := DK4.out.cur
        rw [← hw15]
        clear hw15
        go_at_call 66
        refine (pick_any C a n cp j15 w14.heap.size 3 3 [-1, 17, 3] _ c15 (by omega) (by omega) rfl hL15 (by omega)).mono ?_
        rintro e w16 ⟨⟨z, rfl, -⟩, k16, e16⟩
        have DK5 := Lib.hid (DK4.out.on k16 e16)
        clear hL15 c14 c15 k16 e16 DK3 DK4
        have DK6 : Hid (DpK w C a n cp X yy z (w16.setCell ⟨X, 1, none⟩ (.int .i64 z))) := DK5.out.set1 _
        have o0 := DK5.out.x1
        have o1 := DK5.out.xf 1
        clear DK5
        have q0 := DK6.out.x0
        have q1 := DK6.out.x1
        have s0 := DK6.out.r0
        have s1 := DK6.out.r1
        have g0 := DK6.out.rf 0
        have g1 := DK6.out.rf 1
        have HE := Lib.hid (DK6.out.done (.int .i64 yy) (.int .i64 z))
        obtain ⟨u0, u1⟩ := res2 (u := .int .i64 yy) (v := .int .i64 z) s0 s1
        clear DK6
        go_wp2_with fail
        exact bodyPost_ret (v := .agg #[.int .i64 yy, .int .i64 z]) (by simp [results, Try.results106, go_sem, u0, u1]) rfl ⟨⟨_, _, rfl⟩, HE.out⟩
      · go_wp2_with fail
        obtain ⟨w15, hw15⟩ : ∃ qq, qq = w14.alloc (.cells #[.int .i64 (-1), .int .i64 65536, .int .i64 1, .int .i64 65535] 3) := ⟨_, rfl⟩
        have hb15 : Below w14.heap.size w14 w15 := by rw [hw15]; go_grown
        have hL15 : ListAt w15 w14.heap.size [-1, 65536, 1, 65535] := by rw [hw15]; exact list_at w14 [-1, 65536, 1, 65535] 3
        have DK4 := Lib.hid (DK3.out.grow hb15)
        obtain ⟨j14, c14⟩ := DK3.out.cur
        have ne14 := c14.lt
        obtain ⟨j15, c15⟩ := DK4.out.cur
        rw [← hw15]
        clear hw15
        go_at_call 66
        refine (pick_any C a n cp j15 w14.heap.size 4 4 [-1, 65536, 1, 65535] _ c15 (by omega) (by omega) rfl hL15 (by omega)).mono ?_
        rintro e w16 ⟨⟨z, rfl, -⟩, k16, e16⟩
        have DK5 := Lib.hid (DK4.out.on k16 e16)
        clear hL15 c14 c15 k16 e16 DK3 DK4
        have DK6 : Hid (DpK w C a n cp X z mm (w16.setCell ⟨X, 0, none⟩ (.int .i64 z))) := DK5.out.set0 _
        have o0 := DK5.out.x0
        have o1 := DK5.out.xf 0
        clear DK5
        have q0 := DK6.out.x0
        have q1 := DK6.out.x1
        have s0 := DK6.out.r0
        have s1 := DK6.out.r1
        have g0 := DK6.out.rf 0
        have g1 := DK6.out.rf 1
        have HE := Lib.hid (DK6.out.done (.int .i64 z) (.int .i64 mm))
        obtain ⟨u0, u1⟩ := res2 (u := .int .i64 z) (v := .int .i64 mm) s0 s1
        clear DK6
        go_wp2_with fail
        exact bodyPost_ret (v := .agg #[.int .i64 z, .int .i64 mm]) (by simp [results, Try.results106, go_sem, u0, u1]) rfl ⟨⟨_, _, rfl⟩, HE.out⟩
      · obtain ⟨y5, hy5⟩ : ∃ q, IntKind.i64.wrap (yy + 1) = q := ⟨_, rfl⟩
        have DK4 : Hid (DpK w C a n cp X y5 mm (w14.setCell ⟨X, 0, none⟩ (.int .i64 y5))) := DK3.out.set0 _
        have o0 := DK3.out.x0
        have o1 := DK3.out.xf 0
        clear DK3
        have q0 := DK4.out.x0
        have q1 := DK4.out.x1
        have s0 := DK4.out.r0
        have s1 := DK4.out.r1
        have g0 := DK4.out.rf 0
        have g1 := DK4.out.rf 1
        have HE := Lib.hid (DK4.out.done (.int .i64 y5) (.int .i64 mm))
        obtain ⟨u0, u1⟩ := res2 (u := .int .i64 y5) (v := .int .i64 mm) s0 s1
        clear DK4
        go_wp2_with fail
        exact bodyPost_ret (v := .agg #[.int .i64 y5, .int .i64 mm]) (by simp [results, Try.results106, go_sem, u0, u1]) rfl ⟨⟨_, _, rfl⟩, HE.out⟩

end Go.Proofs.Ytgdnfglhlpnooaa
