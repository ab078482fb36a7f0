/- Draws: a table, walked. -/
import Derived.Test.YtgdnfglhlpnooaaDu
import Derived.Test.YtgdnfglhlpnooaaDd
import Derived.Deep.RegionLaw
import Derived.Deep.DeepCutAuto
namespace Go.Proofs.Ytgdnfglhlpnooaa
open Go.RowKit

theorem rt_frz {w : World} {lo hi n g c : Nat} {L : List Rt} (hr : Row 3 w lo hi (.slice (some ⟨g, 0, none⟩) n c) n (flat L)) (hn : 0 < n) (o : Nat) : w.frozen? ⟨g, o, none⟩ = false := by
  rcases hr.2 with ⟨e1, _⟩ | ⟨g', c', e1, _, _, _, _, hf⟩
  · omega
  · cases e1; exact hf o
/-- A box of a round that holds a prefix. -/
structure PfK (w : World) (H P : Nat) (p q : Int) (wx : World) : Prop where
  h0 : H ≤ P ∧ w.heap.size + 1 < P ∧ P < wx.heap.size
  c0 : wx.cell? ⟨P, 0, none⟩ = some (.int .i64 p)
  c1 : wx.cell? ⟨P, 1, none⟩ = some (.int .i64 q)
  fz : ∀ o, wx.frozen? ⟨P, o, none⟩ = false
theorem PfK.on {w wx w2 : World} {H P C : Nat} {p q : Int} (h : PfK w H P p q wx) (he : Else C wx w2) (hC : C < w.heap.size) : PfK w H P p q w2 := by
  have h0 := h.h0
  exact ⟨⟨h0.1, h0.2.1, Nat.lt_of_lt_of_le h0.2.2 he.2.2.2.1⟩, by rw [he.cell h0.2.2 (by omega)]; exact h.c0, by rw [he.cell h0.2.2 (by omega)]; exact h.c1, fun o => by rw [World.frozen?_of_block (w := wx) (a := ⟨P, o, none⟩) (he.2.2.2.2 P h0.2.2 (by omega))]; exact h.fz o⟩
theorem PfK.new {w wx : World} {H : Nat} {p q : Int} {T : TypeId} (h1 : H ≤ wx.heap.size) (h2 : w.heap.size + 1 < wx.heap.size) : PfK w H wx.heap.size p q (wx.alloc (.cells #[.int .i64 p, .int .i64 q] T)) := ⟨⟨h1, h2, by simp⟩, by simp, by simp, fun o => by simp⟩
theorem PfK.set {w wx : World} {H P : Nat} {p q : Int} (h : PfK w H P p q wx) (p' q' : Int) : PfK w H P p' q' ((wx.setCell ⟨P, 0, none⟩ (.int .i64 p')).setCell ⟨P, 1, none⟩ (.int .i64 q')) := by
  obtain ⟨u0, u1⟩ := res2 (u := .int .i64 p') (v := .int .i64 q') h.c0 h.c1
  exact ⟨⟨h.h0.1, h.h0.2.1, by simpa [World.setCell] using h.h0.2.2⟩, u0, u1, fun o => by simpa using h.fz o⟩
/-- A box with one cell. -/
structure BxK (w : World) (Y : Nat) (u : Value) (wx : World) : Prop where
  h0 : w.heap.size + 1 < Y ∧ Y < wx.heap.size
  c0 : wx.cell? ⟨Y, 0, none⟩ = some u
  fz : ∀ o, wx.frozen? ⟨Y, o, none⟩ = false
theorem BxK.on {w wx w2 : World} {Y C : Nat} {u : Value} (h : BxK w Y u wx) (he : Else C wx w2) (hC : C < w.heap.size) : BxK w Y u w2 := by
  have h0 := h.h0
  exact ⟨⟨h0.1, Nat.lt_of_lt_of_le h0.2 he.2.2.2.1⟩, by rw [he.cell h0.2 (by omega)]; exact h.c0, fun o => by rw [World.frozen?_of_block (w := wx) (a := ⟨Y, o, none⟩) (he.2.2.2.2 Y h0.2 (by omega))]; exact h.fz o⟩
theorem BxK.new {w wx : World} {u : Value} {T : TypeId} (h2 : w.heap.size + 1 < wx.heap.size) : BxK w wx.heap.size u (wx.alloc (.cells #[u] T)) := ⟨⟨h2, by simp⟩, by simp, fun o => by simp⟩
/-- What stands when the round's call of PutRoute is over. -/
def PuK (w : World) (C : Nat) (a : Option Addr) (n cp H : Nat) (v : Value) (L : List Rt) (m Y : Nat) (wx : World) : Prop := ∃ rv L2 lo2, wx.cell? ⟨Y, 0, none⟩ = some rv ∧ L2.length ≤ m ∧ RowT wx lo2 wx.heap.size rv L2.length L2 ∧ w.heap.size + 1 < lo2 ∧ TbK w C a n cp H v L wx
theorem PuK.old {w w9 w10 : World} {C n cp H m Y lo : Nat} {a : Option Addr} {v rv u : Value} {L L2 : List Rt} (hY : BxK w Y u w9) (hD : TbK w C a n cp H v L w9) (hb : Below w9.heap.size w9 w10) (hr : RowT w10 lo w10.heap.size rv L2.length L2) (hlo : lo = w9.heap.size) (hm : L2.length ≤ m) (hH : H ≤ Y) : PuK w C a n cp H v L m Y (w10.setCell ⟨Y, 0, none⟩ rv) := by
  have h0 := hY.h0
  have hc : w10.cell? ⟨Y, 0, none⟩ = some u := by rw [hb.cell (p := ⟨Y, 0, none⟩) h0.2]; exact hY.c0
  exact ⟨rv, L2, lo, World.cell?_setCell_same _ _ _ hc, hm, by simpa [World.setCell] using hr.setCell (p := ⟨Y, 0, none⟩) (.inl (by show Y < lo; omega)) rv, by omega, (hD.grow hb).box hH h0.1⟩
theorem PuK.fresh {w w9 w10 : World} {C n cp H m lo : Nat} {a : Option Addr} {v rv : Value} {L L2 : List Rt} {T : TypeId} (hD : TbK w C a n cp H v L w9) (hb : Below w9.heap.size w9 w10) (hr : RowT w10 lo w10.heap.size rv L2.length L2) (hlo : lo = w9.heap.size) (hm : L2.length ≤ m) : PuK w C a n cp H v L m w10.heap.size (w10.alloc (.cells #[rv] T)) := by
  have hX := hD.hX
  have hb2 : Below w10.heap.size w10 (w10.alloc (.cells #[rv] T)) := by go_grown
  exact ⟨rv, L2, lo, by simp, hm, (hr.below hb2 (Nat.le_refl _)).wide (Nat.le_refl _) hb2.size, by omega, (hD.grow hb).grow hb2⟩
theorem PfK.far2 {w wx : World} {H P E : Nat} {p q : Int} {u v : Value} (h : PfK w H P p q wx) (hE : E ≠ P) : PfK w H P p q ((wx.setCell ⟨E, 0, none⟩ u).setCell ⟨E, 1, none⟩ v) :=
  ⟨⟨h.h0.1, h.h0.2.1, by simpa [World.setCell] using h.h0.2.2⟩, by rw [World.cell?_setCell_other _ _ _ _ (by simp; try omega), World.cell?_setCell_other _ _ _ _ (by simp; try omega)]; exact h.c0, by rw [World.cell?_setCell_other _ _ _ _ (by simp; try omega), World.cell?_setCell_other _ _ _ _ (by simp; try omega)]; exact h.c1, fun o => by simpa using h.fz o⟩

set_option maxRecDepth 100000 in
set_option maxHeartbeats 4000000 in
theorem dtab_loop (C n cp i : Nat) (a : Option Addr) (m : Int) (w : World) (h : Cur w C a n cp i) (old : ∀ p : Addr, a = some p → p.block < w.heap.size) (hm : m ≤ 200) :
    Calls Try.prog 85 #[.pointer (some ⟨C, 0, none⟩), .int .i64 m] w (TbPost w C a n cp 201) := by
  have HC := Lib.hid h
  have Hold := Lib.hid old
  have hCl := h.lt
  clear h old
  go_enter Try.func85, Try.ntmps85
  go_wp2_with fail
  obtain ⟨w0, hw0⟩ : ∃ qq, qq = (w.alloc (.cells #[.slice none 0 0] 30)).alloc (.cells #[.slice none 0 0] 30) := ⟨_, rfl⟩
  have HD0 : Hid (TbK w C a n cp (w.heap.size + 1 + 1) (.slice none 0 0) [] w0) := by rw [hw0]; exact TbK.start HC.out Hold.out
  rw [← hw0]
  clear hw0
  go_loopw [6] (fun iv wr => ∃ (k : Nat) (v : Value) (L : List Rt) (H : Nat), (k : Int) ≤ 200 ∧ iv = .int .i64 (k : Int) ∧ L.length ≤ k ∧ Hid (TbK w C a n cp H v L wr)) (fun iv _ => 201 - (intOf iv).toNat)
  case atStart => exact ⟨0, _, [], _, by omega, rfl, by simp, HD0⟩
  case round =>
    clear HD0
    obtain ⟨k, v, L, H, hkb, rfl, hLk, hD⟩ := hrel
    obtain ⟨lo0, hr0, _⟩ := hD.out.row
    obtain ⟨ga, gc, rfl⟩ := hr0.slice
    clear hr0
    by_cases hk1 : (k : Int) < m
    rotate_left
    · have d1 : decide ((k : Int) < m) = false := decide_eq_false hk1
      obtain ⟨j1, c1⟩ := hD.out.cur
      go_wp2_with fail
      go_at_call 87
      refine (once_any C a n cp j1 25 _ c1 (by omega)).mono ?_
      rintro e w1 ⟨⟨bo, rfl⟩, k1, e1⟩
      have HD1 : Hid (TbK w C a n cp H (.slice ga L.length gc) L w1) := Lib.hid (hD.out.on k1 e1)
      clear c1 k1 e1 hD d1
      have hLL : L.length ≤ 201 := by omega
      cases bo with
      | false =>
        have zt0 := HD1.out.t0
        have zr0 := HD1.out.r0
        have zrf := HD1.out.rf 0
        have hpost := Lib.hid (HD1.out.post (m := 201) hLL)
        have s0 := fun (u : Value) => World.cell?_setCell_same _ _ u zr0
        go_wp2_with fail
        exact bodyPost_ret (v := .agg #[.slice ga L.length gc]) (by simp [results, Try.results85, go_sem, s0]) rfl hpost.out
      | true =>
        by_cases hz : L.length = 0
        · have d2 : decide (0 < (L.length : Int)) = false := decide_eq_false (by omega)
          have zt0 := HD1.out.t0
          have zr0 := HD1.out.r0
          have zrf := HD1.out.rf 0
          have hpost := Lib.hid (HD1.out.post (m := 201) hLL)
          have s0 := fun (u : Value) => World.cell?_setCell_same _ _ u zr0
          rw [hz] at zt0 hpost
          go_wp2_with fail
          exact bodyPost_ret (v := .agg #[.slice ga 0 gc]) (by simp [results, Try.results85, go_sem, s0]) rfl hpost.out
        · have d2 : decide (0 < (L.length : Int)) = true := decide_eq_true (by omega)
          have hz1 : 0 < L.length := by omega
          obtain ⟨lo2, hr2, hlo2⟩ := HD1.out.row
          obtain ⟨g, c, hv, hg0, hg1, hl2⟩ := rt_some rfl hr2.row hz1
          cases hv
          clear hr2
          have t1 := HD1.out.t0
          obtain ⟨j2, c2⟩ := HD1.out.cur
          go_wp2_with fail
          go_at_call 67
          refine (belw_any C a n cp j2 (L.length : Int) _ c2).mono ?_
          rintro e w2 ⟨⟨x, rfl, x0, x1, -⟩, k2, e2⟩
          have x2 := x1 (by omega)
          obtain ⟨X, rfl⟩ : ∃ X : Nat, x = (X : Int) := ⟨x.toNat, by omega⟩
          have hXm : X < L.length := by omega
          have HD2 : Hid (TbK w C a n cp H (.slice (some ⟨g, 0, none⟩) L.length gc) L w2) := Lib.hid (HD1.out.on k2 e2)
          clear c2 k2 e2 HD1 t1 x1 d2
          obtain ⟨j3, c3⟩ := HD2.out.cur
          go_wp2_with fail
          go_at_call 67
          refine (belw_any C a n cp j3 3 _ c3).mono ?_
          rintro e w3 ⟨⟨y, rfl, y0, y1, -⟩, k3, e3⟩
          have y2 := y1 (by omega)
          have HD3 : Hid (TbK w C a n cp H (.slice (some ⟨g, 0, none⟩) L.length gc) L w3) := Lib.hid (HD2.out.on k3 e3)
          clear c3 k3 e3 HD2 y1
          have hy : y = 0 ∨ y = 1 ∨ y = 2 := by omega
          clear y0 y2
          have t3 := HD3.out.t0
          have hg3 := (HD3.out.blk g rfl)
          rcases hy with rfl | rfl | rfl
          · go_upto_region 19 with fail
            have HBz : Hid (Below w3.heap.size w3 (w3.alloc (.cells #[.int .i64 (-1), .int .i64 999, .int .i64 1000] 3))) := Lib.hid (by go_grown)
            have HDz : Hid (TbK w C a n cp H (.slice (some ⟨g, 0, none⟩) L.length gc) L (w3.alloc (.cells #[.int .i64 (-1), .int .i64 999, .int .i64 1000] 3))) := Lib.hid (HD3.out.grow HBz.out)
            have HLz : Hid (ListAt (w3.alloc (.cells #[.int .i64 (-1), .int .i64 999, .int .i64 1000] 3)) w3.heap.size [-1, 999, 1000]) := Lib.hid (list_at w3 [-1, 999, 1000] 3)
            have hneC : w3.heap.size ≠ C := by have h1 := HD3.out.hC; have h2 := HD3.out.hX; omega
            have tz := HDz.out.t0
            go_region_law (
              go_simp
              go_at_call 66
              refine (pick_any C a n cp _ w3.heap.size 3 3 [-1, 999, 1000] _ (by first | exact HDz.out.cur.choose_spec | exact HDz.out.cur.choose_spec.below (Below.refl _ _).drew) (by omega) (by omega) rfl (by first | exact HLz.out | exact HLz.out.else_ (C := C) (Else.of_below (Below.refl _ _).drew) hneC) hneC).mono ?_
              rintro e w4 ⟨⟨zz, rfl, -⟩, k4, e4⟩
              have HD4 : Hid (TbK w C a n cp H (.slice (some ⟨g, 0, none⟩) L.length gc) L w4) := Lib.hid (HDz.out.on k4 e4)
              have t4 := HD4.out.t0
              have hg4 := HD4.out.blk g rfl
              obtain ⟨lo4, hr4, -⟩ := HD4.out.row
              obtain ⟨z0, z1, z2, q10, q11, q12⟩ := rt_cells rfl hr4.row hXm
              have gz := rt_frz hr4.row hz1 (X * 3 + 2)
              obtain ⟨L', hL1, hL2⟩ := flat_set L X 2 zz hXm (by omega)
              have HDf : Hid (TbK w C a n cp H (.slice (some ⟨g, 0, none⟩) L.length gc) L' (w4.setCell ⟨g, X * 3 + 2, none⟩ (.int .i64 zz))) := Lib.hid (HD4.out.cellset rfl (by omega) hL1 hL2)
              clear hr4 k4 e4 HD4 hL1
              )
            all_goals
              have zt0 := HDf.out.t0
              have zr0 := HDf.out.r0
              have zrf := HDf.out.rf 0
              have hpost := Lib.hid (HDf.out.post (m := 201) (by rw [hL2]; omega))
              have s0 := fun (u : Value) => World.cell?_setCell_same _ _ u zr0
              go_wp2_with fail
              exact bodyPost_ret (v := .agg #[.slice (some ⟨g, 0, none⟩) L.length gc]) (by simp [results, Try.results85, go_sem, s0]) rfl hpost.out
          · go_upto_region 21 with fail
            have hold3 : ∀ p : Addr, a = some p → p.block < w3.heap.size := fun p hp => by have h1 := Hold.out p hp; have h2 := HD3.out.hX; omega
            have Hold3 := Lib.hid hold3
            clear hold3
            go_region_law (
              go_simp
              go_at_call 106
              refine (dpref_any C n cp _ a _ (by first | exact HD3.out.cur.choose_spec | exact HD3.out.cur.choose_spec.below (Below.refl _ _).drew) (by exact Hold3.out)).mono ?_
              rintro e w4 ⟨⟨p, q, rfl⟩, k4, e4⟩
              have HD4 : Hid (TbK w C a n cp H (.slice (some ⟨g, 0, none⟩) L.length gc) L w4) := Lib.hid (HD3.out.on k4 e4)
              have t4 := HD4.out.t0
              have hg4 := HD4.out.blk g rfl
              obtain ⟨lo4, hr4, -⟩ := HD4.out.row
              obtain ⟨z0, z1, z2, q10, q11, q12⟩ := rt_cells rfl hr4.row hXm
              have gz0 := rt_frz hr4.row hz1 (X * 3)
              have gz1 := rt_frz hr4.row hz1 (X * 3 + 1)
              obtain ⟨L', hL1, hL2⟩ := flat_set L X 0 p hXm (by omega)
              obtain ⟨L'', hL3, hL4⟩ := flat_set L' X 1 q (by omega) (by omega)
              have HD5 : Hid (TbK w C a n cp H (.slice (some ⟨g, 0, none⟩) L'.length gc) L' (w4.setCell ⟨g, X * 3, none⟩ (.int .i64 p))) := by rw [hL2]; exact Lib.hid (HD4.out.cellset rfl (by omega) hL1 hL2)
              have HDf : Hid (TbK w C a n cp H (.slice (some ⟨g, 0, none⟩) L.length gc) L'' ((w4.setCell ⟨g, X * 3, none⟩ (.int .i64 p)).setCell ⟨g, X * 3 + 1, none⟩ (.int .i64 q))) := by rw [← hL2]; exact Lib.hid (HD5.out.cellset rfl (by omega) hL3 hL4)
              have hL5 : L''.length ≤ 201 := by omega
              clear hr4 k4 e4 HD4 hL1 hL3 HD5 hL2 hL4
              )
            all_goals
              have zt0 := HDf.out.t0
              have zr0 := HDf.out.r0
              have zrf := HDf.out.rf 0
              have hpost := Lib.hid (HDf.out.post (m := 201) hL5)
              have s0 := fun (u : Value) => World.cell?_setCell_same _ _ u zr0
              go_wp2_with fail
              exact bodyPost_ret (v := .agg #[.slice (some ⟨g, 0, none⟩) L.length gc]) (by simp [results, Try.results85, go_sem, s0]) rfl hpost.out
          · obtain ⟨iI, hi0, hz0', hz1', hz2'⟩ := info_parts Try.info43r
            have I := Lib.hid (And.intro hi0 (And.intro hz0' (And.intro hz1' hz2')))
            clear hi0 hz0' hz1' hz2'
            obtain ⟨lo3, hr3, -⟩ := HD3.out.row
            obtain ⟨z0, z1, z2, q10, q11, q12⟩ := rt_cells rfl hr3.row hz1
            simp only [Nat.zero_mul, Nat.zero_add] at q10 q11 q12
            have Hw := Lib.hid HD3.out.own
            have hX3 := HD3.out.hX
            have hg30 := hg3.1
            have hg31 := hg3.2
            have hgne : g ≠ w.heap.size + 1 := by omega
            clear hr3
            go_upto_region 23 with fail
            go_region_law ((refine step_append_lies _ rfl _ _ 28 rfl (w.heap.size + 1 + 1) 43 iI (.agg #[.int .i64 0, .int .i64 0, .int .i64 0]) 3 24 Try.underlying28 I.out.1 I.out.2.1 I.out.2.2.1 I.out.2.2.2 rfl (by decide) _ L.length (ints (flat L)) rfl (Hw.out.drew.alloc _) ⟨w3.heap.size, 0, none⟩ 1 1 (ints [z0, z1, z2]) rfl rfl (fun j u hj => cells_new _ [z0, z1, z2] 43 rfl j u hj) (ints_one _) (by decide) (by unfold maxLen; omega) (by omega) (by simp; omega) _ rfl ?_; intro g4 cap4 w4 hown4 hgrow4 hat4 hlt4; have HB := Lib.hid ((HD3.out.grow (Below.refl _ _).drew).grow ((Below.refl _ _).alloc (Nat.le_refl _) (.cells #[.int .i64 z0, .int .i64 z1, .int .i64 z2] 43))); have HDf := Lib.hid (HB.out.app (by omega) hown4 hgrow4); have x4 : w4.cell? ⟨w.heap.size + 1, 0, none⟩ = some (.slice (some ⟨g, 0, none⟩) L.length gc) := (hgrow4.cell_far ⟨w.heap.size + 1, 0, none⟩ (by simp; omega) (by intro e; first | exact hgne (Option.some.inj e) | exact hgne (Option.some.inj e).symm)).trans HB.out.t0; have f4 : w4.frozen? ⟨w.heap.size + 1, 0, none⟩ = false := (hgrow4.frozen_far ⟨w.heap.size + 1, 0, none⟩ (by simp; omega) (by intro e; first | exact hgne (Option.some.inj e) | exact hgne (Option.some.inj e).symm)).trans (HB.out.tf 0); clear hown4 hgrow4 hat4 hlt4 HB))
            all_goals
              have zt0 := HDf.out.t0
              have zr0 := HDf.out.r0
              have zrf := HDf.out.rf 0
              have hpost := Lib.hid (HDf.out.post (m := 201) (by simp; omega))
              have s0 := fun (u : Value) => World.cell?_setCell_same _ _ u zr0
              go_wp2_with fail
              exact bodyPost_ret (v := .agg #[.slice (some ⟨g4, 0, none⟩) (L.length + 1) cap4]) (by simp [results, Try.results85, go_sem, s0]) rfl hpost.out
    · have d1 : decide ((k : Int) < m) = true := decide_eq_true hk1
      obtain ⟨j1, c1⟩ := hD.out.cur
      go_wp2_with fail
      go_at_call 106
      refine (dpref_any C n cp j1 a _ c1 (fun p hp => by have h1 := Hold.out p hp; have h2 := hD.out.hX; omega)).mono ?_
      rintro e w1 ⟨⟨p, q, rfl⟩, k1, e1⟩
      have HD1 := Lib.hid (hD.out.on k1 e1)
      have hH1 := HD1.out.hH
      have hX1 := HD1.out.hX
      obtain ⟨w2, hw2⟩ : ∃ qq, qq = w1.alloc (.cells #[.int .i64 p, .int .i64 q] 34) := ⟨_, rfl⟩
      have HD2 : Hid (TbK w C a n cp H (.slice ga L.length gc) L w2) := by rw [hw2]; exact HD1.out.grow (by go_grown)
      have HP2 : Hid (PfK w H w1.heap.size p q w2) := by rw [hw2]; exact PfK.new hH1 hX1
      clear c1 k1 e1 HD1 hD
      go_upto_region 6 with fail
      rw [← hw2]
      clear hw2
      have t0 := HD2.out.t0
      have sP := HP2.out.h0
      go_cut [30] (fun s30 wx => ∃ bo : Bool, s30 = .bool bo ∧ (bo = true → 0 < L.length) ∧ Hid (PfK w H w1.heap.size p q wx) ∧ Hid (TbK w C a n cp H (.slice ga L.length gc) L wx))
      case first =>
        by_cases hz : L.length = 0
        · have d2 : decide (0 < (L.length : Int)) = false := decide_eq_false (by omega)
          go_wp2_with fail
          go_meet
          exact ⟨false, rfl, by simp, HP2, HD2⟩
        · have d2 : decide (0 < (L.length : Int)) = true := decide_eq_true (by omega)
          obtain ⟨j2, c2⟩ := HD2.out.cur
          go_wp2_with fail
          go_at_call 87
          refine (once_any C a n cp j2 2 _ c2 (by omega)).mono ?_
          rintro e w3 ⟨⟨bo, rfl⟩, k3, e3⟩
          have HD3 := Lib.hid (HD2.out.on k3 e3)
          have HP3 := Lib.hid (HP2.out.on e3 hCl)
          go_wp2_with fail
          go_meet
          exact ⟨bo, rfl, fun _ => by omega, HP3, HD3⟩
      case rest =>
      obtain ⟨bo, rfl, hbo, HP3, HD3⟩ := hcut
      obtain ⟨w3, rfl⟩ : ∃ x, x = wc := ⟨_, rfl⟩
      clear HP2 HD2 t0
      go_upto_if 30 with fail
      go_cut [7] (fun s7 wx => ∃ (P : Nat) (p q : Int), s7 = .pointer (some ⟨P, 0, none⟩) ∧ Hid (PfK w H P p q wx) ∧ Hid (TbK w C a n cp H (.slice ga L.length gc) L wx))
      case first =>
          cases bo with
          | false =>
            go_wp2_with fail
            go_meet
            exact ⟨_, _, _, rfl, HP3, HD3⟩
          | true =>
            obtain ⟨lo2, hr2, hlo2⟩ := HD3.out.row
            obtain ⟨g, c, hv, hg0, hg1, hl2⟩ := rt_some rfl hr2.row (hbo rfl)
            cases hv
            clear hr2
            have hlz : 0 < L.length := hbo rfl
            have t3 := HD3.out.t0
            go_upto_region 7 with fail
            go_cut [8] (fun s8 wx => ∃ (Q : Nat) (p' q' : Int), s8 = .pointer (some ⟨Q, 0, none⟩) ∧ Hid (PfK w H Q p' q' wx) ∧ w1.heap.size < Q ∧ Hid (PfK w H w1.heap.size p q wx) ∧ Hid (TbK w C a n cp H (.slice (some ⟨g, 0, none⟩) L.length gc) L wx))
            case first =>
              go_wp2_with fail
              have hH3 := HD3.out.hH
              have sP3 := HP3.out.h0
              have HBz : Hid (Below w3.heap.size w3 (w3.alloc (.cells #[.int .i64 0, .int .i64 0] 34))) := Lib.hid (by go_grown)
              have HDz : Hid (TbK w C a n cp H (.slice (some ⟨g, 0, none⟩) L.length gc) L (w3.alloc (.cells #[.int .i64 0, .int .i64 0] 34))) := Lib.hid (HD3.out.grow HBz.out)
              have HPz : Hid (PfK w H w1.heap.size p q (w3.alloc (.cells #[.int .i64 0, .int .i64 0] 34))) := Lib.hid (HP3.out.on (C := C) (Else.of_below HBz.out) hCl)
              have HZz : Hid (PfK w H w3.heap.size 0 0 (w3.alloc (.cells #[.int .i64 0, .int .i64 0] 34))) := Lib.hid (PfK.new hH3 HD3.out.hX)
              have tz := HDz.out.t0
              go_region_law (
                go_simp
                first
                | (
                    go_at_call 67
                    refine (belw_any C a n cp _ (L.length : Int) _ (by first | exact HD3.out.cur.choose_spec | exact HD3.out.cur.choose_spec.below (Below.refl _ _).drew)).mono ?_
                    rintro e w4 ⟨⟨x, rfl, x0, x1, -⟩, k4, e4⟩
                    have x2 := x1 (by omega)
                    obtain ⟨X, rfl⟩ : ∃ X : Nat, x = (X : Int) := ⟨x.toNat, by omega⟩
                    have hXm : X < L.length := by omega
                    have HD4 : Hid (TbK w C a n cp H (.slice (some ⟨g, 0, none⟩) L.length gc) L w4) := Lib.hid (HD3.out.on k4 e4)
                    have HP4 : Hid (PfK w H w1.heap.size p q w4) := Lib.hid (HP3.out.on e4 hCl)
                    have t4 := HD4.out.t0
                    obtain ⟨lo4, hr4, -⟩ := HD4.out.row
                    obtain ⟨z0, z1, z2, y0, y1, -⟩ := rt_cells rfl hr4.row hXm
                    have hH4 := HD4.out.hH
                    have hX4 := HD4.out.hX
                    have sP4 := HP4.out.h0
                    have hgl : g < w4.heap.size := by omega
                    have hgn : g ≠ w4.heap.size := by omega
                    have ya0 : (w4.alloc (.cells #[.int .i64 0, .int .i64 0] 34)).cell? ⟨g, X * 3, none⟩ = some (.int .i64 z0) := by rw [World.cell?_alloc_lt _ _ _ hgl]; exact y0
                    have ya1 : (w4.alloc (.cells #[.int .i64 0, .int .i64 0] 34)).cell? ⟨g, X * 3 + 1, none⟩ = some (.int .i64 z1) := by rw [World.cell?_alloc_lt _ _ _ hgl]; exact y1
                    have HB4 : Hid (Below w4.heap.size w4 (w4.alloc (.cells #[.int .i64 z0, .int .i64 z1] 34))) := Lib.hid (by go_grown)
                    have HQ : Hid (PfK w H w4.heap.size z0 z1 (w4.alloc (.cells #[.int .i64 z0, .int .i64 z1] 34))) := Lib.hid (PfK.new hH4 hX4)
                    have HP5 : Hid (PfK w H w1.heap.size p q (w4.alloc (.cells #[.int .i64 z0, .int .i64 z1] 34))) := Lib.hid (HP4.out.on (C := C) (Else.of_below HB4.out) hCl)
                    have HD5 : Hid (TbK w C a n cp H (.slice (some ⟨g, 0, none⟩) L.length gc) L (w4.alloc (.cells #[.int .i64 z0, .int .i64 z1] 34))) := Lib.hid (HD4.out.grow HB4.out)
                    clear hr4 x1 e4 k4 HB4
                  )
                | (
                    go_at_call 67
                    refine (belw_any C a n cp _ (L.length : Int) _ (by first | exact HDz.out.cur.choose_spec | exact HDz.out.cur.choose_spec.below (Below.refl _ _).drew)).mono ?_
                    rintro e w4 ⟨⟨x, rfl, x0, x1, -⟩, k4, e4⟩
                    have x2 := x1 (by omega)
                    obtain ⟨X, rfl⟩ : ∃ X : Nat, x = (X : Int) := ⟨x.toNat, by omega⟩
                    have hXm : X < L.length := by omega
                    have HD4 : Hid (TbK w C a n cp H (.slice (some ⟨g, 0, none⟩) L.length gc) L w4) := Lib.hid (HDz.out.on k4 e4)
                    have HP4 : Hid (PfK w H w1.heap.size p q w4) := Lib.hid (HPz.out.on e4 hCl)
                    have HZ4 : Hid (PfK w H w3.heap.size 0 0 w4) := Lib.hid (HZz.out.on e4 hCl)
                    have t4 := HD4.out.t0
                    obtain ⟨lo4, hr4, -⟩ := HD4.out.row
                    obtain ⟨z0, z1, z2, y0, y1, -⟩ := rt_cells rfl hr4.row hXm
                    have hX4 := HD4.out.hX
                    have sP4 := HP4.out.h0
                    have f0 := HZ4.out.fz 0
                    have f1 := HZ4.out.fz 1
                    have k0 := HZ4.out.c0
                    have k1 := HZ4.out.c1
                    have HQ : Hid (PfK w H w3.heap.size z0 z1 ((w4.setCell ⟨w3.heap.size, 0, none⟩ (.int .i64 z0)).setCell ⟨w3.heap.size, 1, none⟩ (.int .i64 z1))) := Lib.hid (HZ4.out.set z0 z1)
                    have HP5 : Hid (PfK w H w1.heap.size p q ((w4.setCell ⟨w3.heap.size, 0, none⟩ (.int .i64 z0)).setCell ⟨w3.heap.size, 1, none⟩ (.int .i64 z1))) := Lib.hid (HP4.out.far2 (by omega))
                    have HD5 : Hid (TbK w C a n cp H (.slice (some ⟨g, 0, none⟩) L.length gc) L ((w4.setCell ⟨w3.heap.size, 0, none⟩ (.int .i64 z0)).setCell ⟨w3.heap.size, 1, none⟩ (.int .i64 z1))) := Lib.hid ((HD4.out.box (by omega) (by omega)).box (by omega) (by omega))
                    clear hr4 x1 e4 k4
                  )
                )
              all_goals
                go_wp2_with fail
                go_meet
                exact ⟨_, z0, z1, rfl, HQ, by omega, HP5, HD5⟩
            case rest =>
              obtain ⟨Q, p', q', rfl, HQ, hQ, HP5, HD5⟩ := hcut
              obtain ⟨w5, rfl⟩ : ∃ x, x = wc := ⟨_, rfl⟩
              clear HP3 HD3 t3
              have q0 := HQ.out.c0
              have q1 := HQ.out.c1
              have sQ := HQ.out.h0
              have sP5 := HP5.out.h0
              by_cases hok : pokB p' q' = true ∧ q' < 16
              · go_wp2_with fail
                go_at_call 119
                refine (sphalves_yes p' q' _ hok.1 hok.2).mono ?_
                rintro e w6 ⟨rfl, hb6⟩
                generalize p' + psz (q' + 1) = p''
                generalize q' + 1 = q''
                have HB6 := Lib.hid hb6
                have z6 := hb6.size
                obtain ⟨w7, hw7⟩ : ∃ qq, qq = (w6.alloc (.cells #[.int .i64 p', .int .i64 q''] 34)).alloc (.cells #[.int .i64 p'', .int .i64 q''] 34) := ⟨_, rfl⟩
                have hb7 : Below w6.heap.size w6 w7 := by rw [hw7]; go_grown
                have HP7 := Lib.hid ((HP5.out.on (C := C) (Else.of_below hb6) hCl).on (C := C) (Else.of_below hb7) hCl)
                have HD7 := Lib.hid ((HD5.out.grow hb6).grow hb7)
                have n0 : w7.cell? ⟨w6.heap.size, 0, none⟩ = some (.int .i64 p') := by rw [hw7]; simp
                have n1 : w7.cell? ⟨w6.heap.size, 1, none⟩ = some (.int .i64 q'') := by rw [hw7]; simp
                have HA7 : Hid (PfK w H (w6.heap.size + 1) p'' q'' w7) := by
                  rw [hw7]
                  have hb8 : Below w6.heap.size w6 (w6.alloc (.cells #[.int .i64 p', .int .i64 q''] 34)) := by go_grown
                  have hh := PfK.new (w := w) (H := H) (p := p'') (q := q'') (T := 34) (wx := w6.alloc (.cells #[.int .i64 p', .int .i64 q''] 34)) (by simp; omega) (by simp; omega)
                  refine Lib.hid ?_
                  simpa using hh
                go_upto_region 9 with fail
                rw [← hw7]
                clear hw7 hb6 hb7 HB6 HP5 HD5 HQ q0 q1
                have f0 := HP7.out.fz 0
                have f1 := HP7.out.fz 1
                have k0 := HP7.out.c0
                have k1 := HP7.out.c1
                have HP8 : Hid (PfK w H w1.heap.size p' q'' ((w7.setCell ⟨w1.heap.size, 0, none⟩ (.int .i64 p')).setCell ⟨w1.heap.size, 1, none⟩ (.int .i64 q''))) := Lib.hid (HP7.out.set p' q'')
                have HD8 : Hid (TbK w C a n cp H (.slice (some ⟨g, 0, none⟩) L.length gc) L ((w7.setCell ⟨w1.heap.size, 0, none⟩ (.int .i64 p')).setCell ⟨w1.heap.size, 1, none⟩ (.int .i64 q''))) := Lib.hid ((HD7.out.box (by omega) (by omega)).box (by omega) (by omega))
                have HA8 : Hid (PfK w H (w6.heap.size + 1) p'' q'' ((w7.setCell ⟨w1.heap.size, 0, none⟩ (.int .i64 p')).setCell ⟨w1.heap.size, 1, none⟩ (.int .i64 q''))) := Lib.hid (HA7.out.far2 (by omega))
                obtain ⟨j8, c8⟩ := HD8.out.cur
                clear HP7 HD7 HA7
                go_wp2_with fail
                go_at_call 87
                refine (once_any C a n cp j8 2 _ c8 (by omega)).mono ?_
                rintro e w9 ⟨⟨b9, rfl⟩, k9, e9⟩
                have HD9 := Lib.hid (HD8.out.on k9 e9)
                have HP9 := Lib.hid (HP8.out.on e9 hCl)
                have HA9 := Lib.hid (HA8.out.on e9 hCl)
                clear c8 k9 e9 HP8 HD8 HA8 n0 n1 f0 f1 k0 k1
                cases b9 with
                | false =>
                  go_wp2_with fail
                  go_meet
                  exact ⟨_, _, _, rfl, HP9, HD9⟩
                | true =>
                  have f0 := HP9.out.fz 0
                  have f1 := HP9.out.fz 1
                  have k0 := HP9.out.c0
                  have k1 := HP9.out.c1
                  have n0 := HA9.out.c0
                  have n1 := HA9.out.c1
                  have HP10 : Hid (PfK w H w1.heap.size p'' q'' ((w9.setCell ⟨w1.heap.size, 0, none⟩ (.int .i64 p'')).setCell ⟨w1.heap.size, 1, none⟩ (.int .i64 q''))) := Lib.hid (HP9.out.set p'' q'')
                  have HD10 : Hid (TbK w C a n cp H (.slice (some ⟨g, 0, none⟩) L.length gc) L ((w9.setCell ⟨w1.heap.size, 0, none⟩ (.int .i64 p'')).setCell ⟨w1.heap.size, 1, none⟩ (.int .i64 q''))) := Lib.hid ((HD9.out.box (by omega) (by omega)).box (by omega) (by omega))
                  go_wp2_with fail
                  go_meet
                  exact ⟨_, _, _, rfl, HP10, HD10⟩
              · have hno : pokB p' q' = false ∨ q' = 16 := by
                  cases hp : pokB p' q' with
                  | false => exact Or.inl rfl
                  | true => exact Or.inr (by have h1 := (pokB_true hp).2.1; have h2 : ¬ q' < 16 := fun h => hok ⟨hp, h⟩; omega)
                go_wp2_with fail
                go_at_call 119
                refine (sphalves_no p' q' _ hno).mono ?_
                rintro e w6 ⟨rfl, hb6⟩
                have HB6 := Lib.hid hb6
                have z6 := hb6.size
                obtain ⟨w7, hw7⟩ : ∃ qq, qq = (w6.alloc (.cells #[.int .i64 0, .int .i64 0] 34)).alloc (.cells #[.int .i64 0, .int .i64 0] 34) := ⟨_, rfl⟩
                have hb7 : Below w6.heap.size w6 w7 := by rw [hw7]; go_grown
                have HP7 := Lib.hid ((HP5.out.on (C := C) (Else.of_below hb6) hCl).on (C := C) (Else.of_below hb7) hCl)
                have HD7 := Lib.hid ((HD5.out.grow hb6).grow hb7)
                go_wp2_with fail
                rw [← hw7]
                go_meet
                exact ⟨_, _, _, rfl, HP7, HD7⟩
      case rest =>
        clear HP3 HD3
        obtain ⟨P, p, q, rfl, HP8, HD8⟩ := hcut
        obtain ⟨w8, rfl⟩ : ∃ x, x = wc := ⟨_, rfl⟩
        go_upto_region 13 with fail
        go_cut [12, 13] (fun s12 s13 wx => ∃ (Y : Nat) (b : Bool), s12 = .pointer (some ⟨Y, 0, none⟩) ∧ s13 = .bool b ∧ Hid (PuK w C a n cp H (.slice ga L.length gc) L (k + 1) Y wx))
        case first =>
          have HBa : Hid (Below w8.heap.size w8 (w8.alloc (.cells #[.slice none 0 0] 30))) := Lib.hid (by go_grown)
          have HDa : Hid (TbK w C a n cp H (.slice ga L.length gc) L (w8.alloc (.cells #[.slice none 0 0] 30))) := Lib.hid (HD8.out.grow HBa.out)
          have HPa : Hid (PfK w H P p q (w8.alloc (.cells #[.slice none 0 0] 30))) := Lib.hid (HP8.out.on (C := C) (Else.of_below HBa.out) hCl)
          have HYa : Hid (BxK w w8.heap.size (.slice none 0 0) (w8.alloc (.cells #[.slice none 0 0] 30))) := Lib.hid (BxK.new HD8.out.hX)
          have t8 := HD8.out.t0
          have c80 := HP8.out.c0
          have c81 := HP8.out.c1
          have ta := HDa.out.t0
          have ca0 := HPa.out.c0
          have ca1 := HPa.out.c1
          have ya := HYa.out.c0
          have gza := HYa.out.fz 0
          go_wp2_with fail
          go_region_law (
            go_simp
            first
            | (
                go_at_call 67
                refine (belw_any C a n cp _ 4 _ (by first | exact HDa.out.cur.choose_spec | exact HDa.out.cur.choose_spec.below (Below.refl _ _).drew)).mono ?_
                rintro e w9 ⟨⟨x, rfl, -, -, -⟩, k9, e9⟩
                have HD9 : Hid (TbK w C a n cp H (.slice ga L.length gc) L w9) := Lib.hid (HDa.out.on k9 e9)
                have HP9 : Hid (PfK w H P p q w9) := Lib.hid (HPa.out.on e9 hCl)
                have HY9 : Hid (BxK w w8.heap.size (.slice none 0 0) w9) := Lib.hid (HYa.out.on e9 hCl)
                have t9 := HD9.out.t0
                have c90 := HP9.out.c0
                have c91 := HP9.out.c1
                have y9 := HY9.out.c0
                have gz9 := HY9.out.fz 0
                clear k9 e9
              )
            | (
                go_at_call 67
                refine (belw_any C a n cp _ 4 _ (by first | exact HD8.out.cur.choose_spec | exact HD8.out.cur.choose_spec.below (Below.refl _ _).drew)).mono ?_
                rintro e w9 ⟨⟨x, rfl, -, -, -⟩, k9, e9⟩
                have HD9 : Hid (TbK w C a n cp H (.slice ga L.length gc) L w9) := Lib.hid (HD8.out.on k9 e9)
                have HP9 : Hid (PfK w H P p q w9) := Lib.hid (HP8.out.on e9 hCl)
                have HB9 : Hid (Below w9.heap.size w9 (w9.alloc (.cells #[.slice none 0 0] 30))) := Lib.hid (by go_grown)
                have HDb : Hid (TbK w C a n cp H (.slice ga L.length gc) L (w9.alloc (.cells #[.slice none 0 0] 30))) := Lib.hid (HD9.out.grow HB9.out)
                have HPb : Hid (PfK w H P p q (w9.alloc (.cells #[.slice none 0 0] 30))) := Lib.hid (HP9.out.on (C := C) (Else.of_below HB9.out) hCl)
                have HYb : Hid (BxK w w9.heap.size (.slice none 0 0) (w9.alloc (.cells #[.slice none 0 0] 30))) := Lib.hid (BxK.new HD9.out.hX)
                have tb := HDb.out.t0
                have cb0 := HPb.out.c0
                have cb1 := HPb.out.c1
                have yb := HYb.out.c0
                have gzb := HYb.out.fz 0
                have t9 := HD9.out.t0
                have c90 := HP9.out.c0
                have c91 := HP9.out.c1
                clear k9 e9
              )
            | (
                go_at_call 19
                refine (sput_any_own _ _ L.length _ L p q x _ rfl HD9.out.row.choose_spec.1.row HD9.out.hH).mono ?_
                rintro e w10 ⟨rv, rfl, hr10, hb10⟩
                have yv : w10.cell? ⟨w8.heap.size, 0, none⟩ = some (.slice none 0 0) := by rw [hb10.cell (p := ⟨w8.heap.size, 0, none⟩) HY9.out.h0.2]; exact HY9.out.c0
                have gv : w10.frozen? ⟨w8.heap.size, 0, none⟩ = false := by rw [hb10.frozen (p := ⟨w8.heap.size, 0, none⟩) HY9.out.h0.2]; exact HY9.out.fz 0
                have HPU := Lib.hid (PuK.old (m := k + 1) HY9.out HD9.out hb10 hr10 rfl (by have := putL_len L (p, q, x); omega) (by have := HD8.out.hH; have := HD9.out.hH; omega))
                obtain ⟨ra, rc, rfl⟩ := hr10.slice
                clear hr10 hb10
              )
            | (
                go_at_call 19
                refine (sput_any_own _ _ L.length _ L p q x _ rfl HDb.out.row.choose_spec.1.row HDb.out.hH).mono ?_
                rintro e w10 ⟨rv, rfl, hr10, hb10⟩
                have yv : w10.cell? ⟨w9.heap.size, 0, none⟩ = some (.slice none 0 0) := by rw [hb10.cell (p := ⟨w9.heap.size, 0, none⟩) HYb.out.h0.2]; exact HYb.out.c0
                have gv : w10.frozen? ⟨w9.heap.size, 0, none⟩ = false := by rw [hb10.frozen (p := ⟨w9.heap.size, 0, none⟩) HYb.out.h0.2]; exact HYb.out.fz 0
                have HPU := Lib.hid (PuK.old (m := k + 1) HYb.out HDb.out hb10 hr10 rfl (by have := putL_len L (p, q, x); omega) (by have := HD8.out.hH; have := HD9.out.hH; omega))
                obtain ⟨ra, rc, rfl⟩ := hr10.slice
                clear hr10 hb10
              )
            | (
                go_at_call 19
                refine (sput_any_own _ _ L.length _ L p q x _ rfl HD9.out.row.choose_spec.1.row HD9.out.hH).mono ?_
                rintro e w10 ⟨rv, rfl, hr10, hb10⟩
                have HPU := Lib.hid (PuK.fresh (m := k + 1) (T := 30) HD9.out hb10 hr10 rfl (by have := putL_len L (p, q, x); omega))
                obtain ⟨ra, rc, rfl⟩ := hr10.slice
                clear hr10 hb10
              )
            )
          all_goals
            go_wp2_with fail
            go_meet
            exact ⟨_, _, rfl, rfl, HPU⟩
        case rest =>
          obtain ⟨Y, b, rfl, rfl, hPU⟩ := hcut
          obtain ⟨w11, rfl⟩ : ∃ x, x = wc := ⟨_, rfl⟩
          obtain ⟨rv, L2, lo2, y0, hL2, hr2, hlo2, hD11⟩ := hPU.out
          obtain ⟨ra, rc, rfl⟩ := hr2.slice
          have t0 := hD11.t0
          have f0 := hD11.tf 0
          have HDn : Hid (TbK w C a n cp w11.heap.size (.slice ra L2.length rc) L2 (w11.setCell ⟨w.heap.size + 1, 0, none⟩ (.slice ra L2.length rc))) := Lib.hid (hD11.put hr2 hlo2)
          have ek : IntKind.i64.wrap ((k : Int) + 1) = (k : Int) + 1 := IntWalk.i64_in _ (by omega)
          clear hPU hr2 hD11 HP8 HD8
          go_wp2_with fail
          go_roundw
          case rel => exact ⟨k + 1, _, L2, w11.heap.size, by omega, by go_num, by omega, HDn⟩
          case measure => simp [intOf]; omega

end Go.Proofs.Ytgdnfglhlpnooaa
