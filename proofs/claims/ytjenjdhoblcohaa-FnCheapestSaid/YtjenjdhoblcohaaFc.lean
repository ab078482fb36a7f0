/- FnCheapest: the walk. -/
import Derived.Test.YtjenjdhoblcohaaDt
import Derived.Test.YtjenjdhoblcohaaMo
import Derived.Test.YtjenjdhoblcohaaWy
import Derived.Test.YtjenjdhoblcohaaRa
import Derived.Test.YtjenjdhoblcohaaIc
import Derived.Test.YtjenjdhoblcohaaKf
import Derived.Test.YtjenjdhoblcohaaMp
import Derived.Test.YtjenjdhoblcohaaSq
import Derived.Test.YtjenjdhoblcohaaWn
import Derived.Test.YtjenjdhoblcohaaOn
import Derived.Test.YtjenjdhoblcohaaKp
import Derived.Test.YtjenjdhoblcohaaWj
namespace Go.Proofs.Ytjenjdhoblcohaa
open Go.RowKit

/-- A graph and two numbers are drawn. -/
def DcPost (w : World) (e : Ending) (w' : World) : Prop := ∃ M gv L x y, e = .returned (.tuple #[.agg #[.int .i64 M, gv], .int .i64 x, .int .i64 y]) ∧ Row 3 w' w.heap.size w'.heap.size gv L.length (flat L) ∧ L.length ≤ 61 ∧ Below w.heap.size w w'
theorem dc_end {w w0 w3 : World} {M x y : Int} {gv : Value} {L : List Ed} (h0 : w0.heap.size = w.heap.size + 1) (hb0 : Below w.heap.size w w0) (hb : Below w0.heap.size w0 w3) (hr : Row 3 w3 w0.heap.size w3.heap.size gv L.length (flat L)) (hl : L.length ≤ 61) : DcPost w (.returned (.tuple #[.agg #[.int .i64 M, gv], .int .i64 x, .int .i64 y])) ((w3.setCell ⟨w.heap.size, 0, none⟩ (.int .i64 M)).setCell ⟨w.heap.size, 1, none⟩ gv) := by
  obtain ⟨M', gv', L', x', e1, h3, h4, h5⟩ := dh_end (x := x) (M := M) h0 hb0 hb hr hl
  cases e1
  exact ⟨M, gv, L', x, y, rfl, h3, h4, h5⟩
/-- What is known of the world behind l03Draw, as the cursor goes on. -/
structure DcW (w w0 w1 w2 v : World) (C : Nat) (a : Option Addr) (n cp : Nat) (M : Int) (gv : Value) (L : List Ed) : Prop where
  cur : ∃ i, Cur v C a n cp i
  els : Else C w2 v
  k0 : v.cell? ⟨w1.heap.size, 0, none⟩ = some (.int .i64 M)
  k1 : v.cell? ⟨w1.heap.size, 1, none⟩ = some gv
  r0 : v.cell? ⟨w.heap.size, 0, none⟩ = some (.int .i64 0)
  r1 : v.cell? ⟨w.heap.size, 1, none⟩ = some (.slice none 0 0)
  rf : ∀ o, v.frozen? ⟨w.heap.size, o, none⟩ = false
  row : Row 3 v (C + 1) w1.heap.size gv L.length (flat L)
  bel : Below w0.heap.size w0 v
  n1 : w.heap.size ≠ C
  n2 : w1.heap.size ≠ C
  c0 : w0.heap.size ≤ C
  s0 : w0.heap.size = w.heap.size + 1
  s1 : w0.heap.size ≤ w1.heap.size
  sv : w1.heap.size < v.heap.size
theorem DcW.on {w w0 w1 w2 v v' : World} {C : Nat} {a : Option Addr} {n cp j : Nat} {M : Int} {gv : Value} {L : List Ed} (h : DcW w w0 w1 w2 v C a n cp M gv L) (hc : Cur v' C a n cp j) (he : Else C v v') : DcW w w0 w1 w2 v' C a n cp M gv L := by
  have s0 := h.s0; have s1 := h.s1; have sv := h.sv; have c0 := h.c0; have sz := he.2.2.2.1; have n1 := h.n1; have n2 := h.n2
  refine ⟨⟨j, hc⟩, h.els.trans he, ?_, ?_, ?_, ?_, fun o => ?_, h.row.else_ he (by omega) (.inr (by omega)), h.bel.trans (he.below (by omega) (by omega)), n1, n2, c0, s0, s1, by omega⟩
  · rw [he.cell (by omega) n2]; exact h.k0
  · rw [he.cell (by omega) n2]; exact h.k1
  · rw [he.cell (by omega) n1]; exact h.r0
  · rw [he.cell (by omega) n1]; exact h.r1
  · rw [World.frozen?_of_block (w := v) (a := ⟨w.heap.size, o, none⟩) (he.2.2.2.2 w.heap.size (by omega) n1)]; exact h.rf o
theorem DcW.drew {w w0 w1 w2 v : World} {C : Nat} {a : Option Addr} {n cp : Nat} {M : Int} {gv : Value} {L : List Ed} (h : DcW w w0 w1 w2 v C a n cp M gv L) : DcW w w0 w1 w2 v.drew C a n cp M gv L := by
  obtain ⟨i, hc⟩ := h.cur
  exact h.on (hc.below (Below.refl _ _).drew) (Else.of_below (Below.refl _ _).drew)

theorem DcW.ne {w w0 w1 w2 v : World} {C : Nat} {a : Option Addr} {n cp : Nat} {M : Int} {gv : Value} {L : List Ed} (h : DcW w w0 w1 w2 v C a n cp M gv L) : C < v.heap.size := by obtain ⟨i, hc⟩ := h.cur; exact hc.lt
theorem DcW.box {w w0 w1 w2 v : World} {C : Nat} {a : Option Addr} {n cp : Nat} {M : Int} {gv : Value} {L : List Ed} (h : DcW w w0 w1 w2 v C a n cp M gv L) (o : Obj) : DcW w w0 w1 w2 (v.alloc o) C a n cp M gv L := by
  obtain ⟨i, hc⟩ := h.cur
  have hb : Below v.heap.size v (v.alloc o) := (Below.refl _ _).alloc (Nat.le_refl _) _
  exact h.on (hc.below hb) (Else.of_below hb)
/-- One edge of them, read. -/
theorem dc_edge {w : World} {lo hi g c : Nat} {L : List Ed} {q : Nat} (h : Row 3 w lo hi (.slice (some ⟨g, 0, none⟩) L.length c) L.length (flat L)) (hq : q < L.length) : ∃ e0 e1 e2 : Int, w.cell? ⟨g, q * 3, none⟩ = some (.int .i64 e0) ∧ w.cell? ⟨g, q * 3 + 1, none⟩ = some (.int .i64 e1) ∧ w.cell? ⟨g, q * 3 + 2, none⟩ = some (.int .i64 e2) := by
  obtain ⟨r, hr⟩ : ∃ r, L[q]? = some r := ⟨L[q], List.getElem?_eq_getElem hq⟩
  obtain ⟨r0, r1, r2⟩ := flat_at L q r hr
  rcases h.2 with ⟨e1, _⟩ | ⟨g', c', e1, _, _, _, hg, _⟩
  · omega
  · cases e1
    exact ⟨_, _, _, hg _ _ r0, hg _ _ r1, hg _ _ r2⟩

theorem DcPost.drew {w w' : World} {e : Ending} (h : DcPost w e w') : DcPost w e w'.drew := by
  obtain ⟨M, gv, L, x, y, e1, h1, h2, h3⟩ := h
  exact ⟨M, gv, L, x, y, e1, h1, h2, h3.drew⟩
/-- What is known of the world once the edge is copied. -/
structure DcE (w w0 w1 v : World) (B : Nat) (M : Int) (gv : Value) (L : List Ed) (e0 e1 e2 : Int) : Prop where
  k0 : v.cell? ⟨w1.heap.size, 0, none⟩ = some (.int .i64 M)
  k1 : v.cell? ⟨w1.heap.size, 1, none⟩ = some gv
  r0 : v.cell? ⟨w.heap.size, 0, none⟩ = some (.int .i64 0)
  r1 : v.cell? ⟨w.heap.size, 1, none⟩ = some (.slice none 0 0)
  rf : ∀ o, v.frozen? ⟨w.heap.size, o, none⟩ = false
  b0 : v.cell? ⟨B, 0, none⟩ = some (.int .i64 e0)
  b1 : v.cell? ⟨B, 1, none⟩ = some (.int .i64 e1)
  b2 : v.cell? ⟨B, 2, none⟩ = some (.int .i64 e2)
  row : Row 3 v w0.heap.size v.heap.size gv L.length (flat L)
  bel : Below w0.heap.size w0 v
theorem three_same {v : World} {B : Nat} {u0 u1 u2 x0 x1 x2 : Value} (h0 : v.cell? ⟨B, 0, none⟩ = some x0) (h1 : v.cell? ⟨B, 1, none⟩ = some x1) (h2 : v.cell? ⟨B, 2, none⟩ = some x2) : (((v.setCell ⟨B, 0, none⟩ u0).setCell ⟨B, 1, none⟩ u1).setCell ⟨B, 2, none⟩ u2).cell? ⟨B, 0, none⟩ = some u0 ∧ (((v.setCell ⟨B, 0, none⟩ u0).setCell ⟨B, 1, none⟩ u1).setCell ⟨B, 2, none⟩ u2).cell? ⟨B, 1, none⟩ = some u1 ∧ (((v.setCell ⟨B, 0, none⟩ u0).setCell ⟨B, 1, none⟩ u1).setCell ⟨B, 2, none⟩ u2).cell? ⟨B, 2, none⟩ = some u2 := by
  refine ⟨?_, ?_, ?_⟩
  · rw [World.cell?_setCell_other _ _ _ _ (by simp), World.cell?_setCell_other _ _ _ _ (by simp)]; exact World.cell?_setCell_same _ _ _ h0
  · rw [World.cell?_setCell_other _ _ _ _ (by simp)]; exact World.cell?_setCell_same _ _ _ (by rw [World.cell?_setCell_other _ _ _ _ (by simp)]; exact h1)
  · exact World.cell?_setCell_same _ _ _ (by rw [World.cell?_setCell_other _ _ _ _ (by simp), World.cell?_setCell_other _ _ _ _ (by simp)]; exact h2)
theorem three_other {v : World} {B b o : Nat} {u0 u1 u2 : Value} (h : b ≠ B) : (((v.setCell ⟨B, 0, none⟩ u0).setCell ⟨B, 1, none⟩ u1).setCell ⟨B, 2, none⟩ u2).cell? ⟨b, o, none⟩ = v.cell? ⟨b, o, none⟩ := by
  rw [World.cell?_setCell_other _ _ _ _ (by intro e; cases e; exact h rfl), World.cell?_setCell_other _ _ _ _ (by intro e; cases e; exact h rfl), World.cell?_setCell_other _ _ _ _ (by intro e; cases e; exact h rfl)]
theorem dce_of {w w0 w1 w2 v : World} {C B : Nat} {a : Option Addr} {n cp : Nat} {M : Int} {gv : Value} {L : List Ed} {e0 e1 e2 : Int} {x0 x1 x2 : Value} (h : DcW w w0 w1 w2 v C a n cp M gv L) (hB : w1.heap.size < B) (h0 : v.cell? ⟨B, 0, none⟩ = some x0) (h1 : v.cell? ⟨B, 1, none⟩ = some x1) (h2 : v.cell? ⟨B, 2, none⟩ = some x2) : DcE w w0 w1 (((v.setCell ⟨B, 0, none⟩ (.int .i64 e0)).setCell ⟨B, 1, none⟩ (.int .i64 e1)).setCell ⟨B, 2, none⟩ (.int .i64 e2)) B M gv L e0 e1 e2 := by
  have s0 := h.s0; have s1 := h.s1; have sv := h.sv; have c0 := h.c0
  obtain ⟨t0, t1, t2⟩ := three_same (u0 := .int .i64 e0) (u1 := .int .i64 e1) (u2 := .int .i64 e2) h0 h1 h2
  refine ⟨by rw [three_other (by omega)]; exact h.k0, by rw [three_other (by omega)]; exact h.k1, by rw [three_other (by omega)]; exact h.r0, by rw [three_other (by omega)]; exact h.r1, fun o => by rw [World.frozen?_setCell, World.frozen?_setCell, World.frozen?_setCell]; exact h.rf o, t0, t1, t2, ?_, ?_⟩
  · have hr := ((h.row.setCell (p := ⟨B, 0, none⟩) (.inr (by show w1.heap.size ≤ B; omega)) (.int .i64 e0)).setCell (p := ⟨B, 1, none⟩) (.inr (by show w1.heap.size ≤ B; omega)) (.int .i64 e1)).setCell (p := ⟨B, 2, none⟩) (.inr (by show w1.heap.size ≤ B; omega)) (.int .i64 e2)
    refine hr.wide (by omega) ?_
    simp [World.setCell]
    omega
  · exact ((h.bel.setCell (p := ⟨B, 0, none⟩) (by show w0.heap.size ≤ B; omega) _).setCell (p := ⟨B, 1, none⟩) (by show w0.heap.size ≤ B; omega) _).setCell (p := ⟨B, 2, none⟩) (by show w0.heap.size ≤ B; omega) _

set_option maxRecDepth 100000 in
set_option maxHeartbeats 4000000 in
theorem dcost_any (a : Option Addr) (n cp : Nat) (w : World) (hb : BytesAt w a n) (hold : ∀ p : Addr, a = some p → p.block < w.heap.size) : Calls Try.prog 69 #[.slice a n cp] w (DcPost w) := by
  have HO := Lib.hid hold
  have HB := Lib.hid hb
  clear hb hold
  go_enter Try.func69, Try.ntmps69
  go_wp2_with fail
  obtain ⟨w0, hw0⟩ : ∃ q, q = (w.alloc (.cells #[.int .i64 0, .slice none 0 0] 29)) := ⟨_, rfl⟩
  have HR0 : Hid (w0.heap.size = w.heap.size + 1 ∧ Below w.heap.size w w0 ∧ BytesAt w0 a n ∧ w0.cell? ⟨w.heap.size, 0, none⟩ = some (.int .i64 0) ∧ w0.cell? ⟨w.heap.size, 1, none⟩ = some (.slice none 0 0) ∧ ∀ o, w0.frozen? ⟨w.heap.size, o, none⟩ = false) :=
    ⟨by rw [hw0]; simp, by rw [hw0]; exact (Below.refl _ _).alloc (Nat.le_refl _) _, by rw [hw0]; exact BytesAt.alloc HB.out _, by rw [hw0]; show _ = _; simp, by rw [hw0]; show _ = _; simp, fun o => by rw [hw0]; show _ = _; simp⟩
  rw [← hw0]
  clear hw0 HB
  go_at_call 79
  refine (draw_any a n cp w0 HR0.out.2.2.1 (fun p e => by have := HO.out p e; have := HR0.out.1; omega)).mono ?_
  rintro e w1 ⟨C, M, gv, L, rfl, ⟨i, hc1⟩, hC0, hr, hl, hb1⟩
  obtain ⟨ga, gc, hgv⟩ := hr.slice
  subst hgv
  have hs0 := HR0.out.1
  have hs1 := hb1.size
  have hC1 := hc1.lt
  obtain ⟨w2, hw2⟩ : ∃ q, q = w1.alloc (.cells #[.int .i64 M, .slice ga L.length gc] 29) := ⟨_, rfl⟩
  have hb2 : Below w1.heap.size w1 w2 := by rw [hw2]; exact (Below.refl _ _).alloc (Nat.le_refl _) _
  have hs2 : w2.heap.size = w1.heap.size + 1 := by rw [hw2]; simp
  have D2 : Hid (DcW w w0 w1 w2 w2 C a n cp M (.slice ga L.length gc) L) := ⟨⟨i, hc1.below hb2⟩, Else.refl' _ _, by rw [hw2]; simp, by rw [hw2]; simp,
    by rw [hb2.cell (p := ⟨w.heap.size, 0, none⟩) (by show w.heap.size < _; omega), hb1.cell (p := ⟨w.heap.size, 0, none⟩) (by show w.heap.size < _; omega)]; exact HR0.out.2.2.2.1,
    by rw [hb2.cell (p := ⟨w.heap.size, 1, none⟩) (by show w.heap.size < _; omega), hb1.cell (p := ⟨w.heap.size, 1, none⟩) (by show w.heap.size < _; omega)]; exact HR0.out.2.2.2.2.1,
    fun o => by rw [hb2.frozen (p := ⟨w.heap.size, o, none⟩) (by show w.heap.size < _; omega), hb1.frozen (p := ⟨w.heap.size, o, none⟩) (by show w.heap.size < _; omega)]; exact HR0.out.2.2.2.2.2 o,
    hr.below hb2 (Nat.le_refl _), hb1.trans (hb2.mono hs1), by omega, by omega, by omega, hs0, hs1, by omega⟩
  clear hr hb1 hc1 hb2 HO
  go_wp2_with fail
  all_goals rw [← hw2]
  all_goals clear hw2
  · go_at_call 94
    obtain ⟨i2, hcur⟩ := D2.out.cur
    refine (once_any C a n cp i2 2 w2 hcur (by omega)).mono ?_
    rintro e v ⟨⟨x, rfl⟩, ⟨j, hc3⟩, he3⟩
    have DV := Lib.hid (D2.out.on hc3 he3)
    clear hc3 he3 hcur
    cases x with
    | false =>
      go_wp2_with fail
      have DV0 := Lib.hid DV.out.drew
      refine wp_region_held_drew (S := (fun w' => w'.cell? ⟨w1.heap.size, 0, none⟩ = some (.int .i64 M) ∧ w'.cell? ⟨w1.heap.size, 1, none⟩ = some (.slice ga L.length gc))) (by kernel_rfl) ?_ (fun hHeld => ?_)
      · exact ⟨DV0.out.k0, DV0.out.k1⟩
      refine step_read 0 35 rfl rfl (by kernel_rfl) (by kernel_rfl) (by kernel_rfl) (fun _ _ _ h => h) (by rfl) (v := ?_) (fun w hSw => ?_) (by assumption) ?_; rotate_left; (focus ((try dsimp only at hSw); go_simp; first | done | exact rfl)); simp only [List.set]
      refine step_read 1 36 rfl rfl (by kernel_rfl) (by kernel_rfl) (by kernel_rfl) (fun _ _ _ h => h) (by rfl) (v := ?_) (fun w hSw => ?_) (by assumption) ?_; rotate_left; (focus ((try dsimp only at hSw); go_simp; first | done | exact rfl)); simp only [List.set]
      refine step_read 2 37 rfl rfl (by kernel_rfl) (by kernel_rfl) (by kernel_rfl) (fun _ _ _ h => h) (by rfl) (v := ?_) (fun w hSw => ?_) (by assumption) ?_; rotate_left; (focus ((try dsimp only at hSw); go_simp; first | done | exact rfl)); simp only [List.set]
      refine step_read 4 39 rfl rfl (by kernel_rfl) (by kernel_rfl) (by kernel_rfl) (fun _ _ _ h => h) (by rfl) (v := ?_) (fun w hSw => ?_) (by assumption) ?_; rotate_left; (focus ((try dsimp only at hSw); go_simp; first | done | exact rfl)); simp only [List.set]
      refine step_read 5 40 rfl rfl (by kernel_rfl) (by kernel_rfl) (by kernel_rfl) (fun _ _ _ h => h) (by rfl) (v := ?_) (fun w hSw => ?_) (by assumption) ?_; rotate_left; (focus ((try dsimp only at hSw); go_simp; first | done | exact rfl)); simp only [List.set]
      refine wpAnyH_ready (rs := [3]) (by kernel_rfl) (by simp) ?_
      refine AllReadyH.cons rfl (fun Kc hK => ?_) (AllReadyH.nil)
      go_simp
      go_at_call 80
      obtain ⟨jx, hcur⟩ := DV0.out.cur
      refine (dnode_any C a n cp jx M (.slice ga L.length gc) ⟨_, _, _, rfl⟩ _ hcur).mono ?_
      rintro e vx ⟨⟨x, rfl⟩, ⟨jx2, hc3⟩, he3⟩
      have DV1 := Lib.hid (DV0.out.on hc3 he3)
      clear hc3 he3 hcur hHeld
      refine hK.out _ _ ?_ (fun hHeld => ?_)
      · exact ⟨DV1.out.k0, DV1.out.k1⟩
      clear hK Kc
      refine wpAnyH_ready (rs := [6]) (by kernel_rfl) (by simp) ?_
      refine AllReadyH.cons rfl (fun Kc hK => ?_) (AllReadyH.nil)
      go_simp
      go_at_call 80
      obtain ⟨jy, hcur⟩ := DV1.out.cur
      refine (dnode_any C a n cp jy M (.slice ga L.length gc) ⟨_, _, _, rfl⟩ _ hcur).mono ?_
      rintro e vy ⟨⟨y, rfl⟩, ⟨jy2, hc3⟩, he3⟩
      have DV2 := Lib.hid (DV1.out.on hc3 he3)
      clear hc3 he3 hcur hHeld
      refine hK.out _ _ ?_ (fun hHeld => ?_)
      · exact ⟨DV2.out.k0, DV2.out.k1⟩
      clear hK Kc
      refine wpAnyH_ready (rs := [7]) (by kernel_rfl) (by simp) ?_
      refine AllReadyH.cons rfl (fun Kc hK => ?_) (AllReadyH.nil)
      have q0 := DV2.out.r0
      have q1 := DV2.out.r1
      have f0 := DV2.out.rf 0
      have f1 := DV2.out.rf 1
      clear hHeld
      go_simp
      have dd0 := DV2.out.s0
      have dd1 := DV2.out.s1
      obtain ⟨s0, s1⟩ := res2 (u := .int .i64 M) (v := .slice ga L.length gc) q0 q1
      refine hK.out _ _ ?_ (fun hHeld => ?_)
      · exact ⟨by rw [World.cell?_setCell_other _ _ _ _ (by simp), World.cell?_setCell_other _ _ _ _ (by simp)]; exact DV2.out.k0, by rw [World.cell?_setCell_other _ _ _ _ (by simp), World.cell?_setCell_other _ _ _ _ (by simp)]; exact DV2.out.k1⟩
      clear hK Kc
      refine step_read 8 3 rfl rfl (by kernel_rfl) (by kernel_rfl) (by kernel_rfl) (fun _ _ _ h => h) (by rfl) (v := ?_) (fun w hSw => ?_) (by assumption) ?_; rotate_left; (focus ((try dsimp only at hSw); go_simp; first | done | exact rfl)); simp only [List.set]
      refine step_read 9 4 rfl rfl (by kernel_rfl) (by kernel_rfl) (by kernel_rfl) (fun _ _ _ h => h) (by rfl) (v := ?_) (fun w hSw => ?_) (by assumption) ?_; rotate_left; (focus ((try dsimp only at hSw); go_simp; first | done | exact rfl)); simp only [List.set]
      refine wpAnyH_done (by kernel_rfl) ?_ _
      clear hHeld
      have HE := Lib.hid (dc_end (x := x) (y := y) (M := M) HR0.out.1 HR0.out.2.1 DV2.out.bel (DV2.out.row.wide (by have := DV2.out.c0; omega) (by have := DV2.out.sv; omega)) hl)
      go_wp2
      exact bodyPost_ret (v := .tuple #[.agg #[.int .i64 M, .slice ga L.length gc], .int .i64 x, .int .i64 y]) (by simp [results, Try.results69, go_sem, s0, s1]) rfl HE.out
    | true =>
      go_wp2_with fail
      have hp : 0 < L.length := by omega
      have DV0 := Lib.hid DV.out.drew
      obtain ⟨g, eg⟩ : ∃ g, ga = some ⟨g, 0, none⟩ := by
        rcases DV0.out.row.2 with ⟨e1, _⟩ | ⟨g, c', e1, _⟩
        · omega
        · cases e1; exact ⟨g, rfl⟩
      subst eg
      have HX : Hid (∀ v' : World, DcW w w0 w1 w2 v' C a n cp M (.slice (some ⟨g, 0, none⟩) L.length gc) L → Calls Try.prog 82 #[.pointer (some ⟨C, 0, none⟩), .int .i64 (L.length : Int)] v' fun e w' => ∃ q : Nat, e = .returned (.int .i64 (q : Int)) ∧ q < L.length ∧ DcW w w0 w1 w2 w' C a n cp M (.slice (some ⟨g, 0, none⟩) L.length gc) L ∧ Else C v' w') := by
        intro v' h
        obtain ⟨jj, hc⟩ := h.cur
        refine (belw_any C a n cp jj _ v' hc).mono ?_
        rintro e w' ⟨⟨x, rfl, h0, h1, -⟩, ⟨j2, hc2⟩, he2⟩
        have hx := h1 (by omega)
        exact ⟨x.toNat, by rw [Int.toNat_of_nonneg h0], by omega, h.on hc2 he2, he2⟩
      have hnv : v.heap.size ≠ C := Nat.ne_of_gt DV.out.ne
      have sv : w1.heap.size < v.heap.size := DV0.out.sv
      refine wp_region_held_drew (S := (fun w' => w'.cell? ⟨w1.heap.size, 0, none⟩ = some (.int .i64 M) ∧ w'.cell? ⟨w1.heap.size, 1, none⟩ = some (.slice (some ⟨g, 0, none⟩) L.length gc))) (by kernel_rfl) ?_ (fun hHeld => ?_)
      · exact ⟨DV0.out.k0, DV0.out.k1⟩
      refine step_read 0 21 rfl rfl (by kernel_rfl) (by kernel_rfl) (by kernel_rfl) (fun _ _ _ h => h) (by rfl) (v := ?_) (fun w hSw => ?_) (by assumption) ?_; rotate_left; (focus ((try dsimp only at hSw); go_simp; first | done | exact rfl)); simp only [List.set]
      refine step_read 1 22 rfl rfl (by kernel_rfl) (by kernel_rfl) (by kernel_rfl) (fun _ _ _ h => h) (by rfl) (v := ?_) (fun w hSw => ?_) (by assumption) ?_; rotate_left; (focus ((try dsimp only at hSw); go_simp; first | done | exact rfl)); simp only [List.set]
      refine step_read 2 23 rfl rfl (by kernel_rfl) (by kernel_rfl) (by kernel_rfl) (fun _ _ _ h => h) (by rfl) (v := ?_) (fun w hSw => ?_) (by assumption) ?_; rotate_left; (focus ((try dsimp only at hSw); go_simp; first | done | exact rfl)); simp only [List.set]
      refine step_read 3 24 rfl rfl (by kernel_rfl) (by kernel_rfl) (by kernel_rfl) (fun _ _ _ h => h) (by rfl) (v := ?_) (fun w hSw => ?_) (by assumption) ?_; rotate_left; (focus ((try dsimp only at hSw); go_simp; first | done | exact rfl)); simp only [List.set]
      refine step_read 4 25 rfl rfl (by kernel_rfl) (by kernel_rfl) (by kernel_rfl) (fun _ _ _ h => h) (by rfl) (v := ?_) (fun w hSw => ?_) (by assumption) ?_; rotate_left; (focus ((try dsimp only at hSw); go_simp; first | done | exact rfl)); simp only [List.set]
      refine step_read 5 26 rfl rfl (by kernel_rfl) (by kernel_rfl) (by kernel_rfl) (fun _ _ _ h => h) (by rfl) (v := ?_) (fun w hSw => ?_) (by assumption) ?_; rotate_left; (focus ((try dsimp only at hSw); go_simp; first | done | exact rfl)); simp only [List.set]
      refine wpAnyH_ready (rs := [6, 9]) (by kernel_rfl) (by simp) ?_
      refine AllReadyH.cons rfl (fun Kc hK => ?_) (AllReadyH.cons rfl (fun Kc hK => ?_) (AllReadyH.nil))
      · clear hHeld
        go_simp
        go_at_call 82
        refine (HX.out _ DV0.out).mono ?_
        rintro e vx ⟨q, rfl, hq, hd3, he3⟩
        have D1 := Lib.hid hd3
        obtain ⟨e0, e1, e2, c0, c1, c2⟩ := dc_edge hd3.row hq
        have p1 : (0 : Int) ≤ (q : Int) := by omega
        have p2 : (q : Int) < (L.length : Int) := by omega
        have sx : v.heap.size ≤ vx.heap.size := by have := he3.2.2.2.1; exact this
        clear hd3 he3
        refine hK.out _ _ ?_ (fun hHeld => ?_)
        · exact ⟨D1.out.k0, D1.out.k1⟩
        clear hK Kc
        refine step_read 7 28 rfl rfl (by kernel_rfl) (by kernel_rfl) (by kernel_rfl) (fun _ _ _ h => h) (by rfl) (v := ?_) (fun w hSw => ?_) (by assumption) ?_; rotate_left; (focus ((try dsimp only at hSw); go_simp; first | done | exact rfl)); simp only [List.set]
        refine wpAnyH_ready (rs := [8, 9]) (by kernel_rfl) (by simp) ?_
        refine AllReadyH.cons rfl (fun Kc hK => ?_) (AllReadyH.cons rfl (fun Kc hK => ?_) (AllReadyH.nil))
        · clear hHeld
          go_simp
          refine hK.out _ _ ?_ (fun hHeld => ?_)
          · exact ⟨D1.out.k0, D1.out.k1⟩
          clear hK Kc
          refine wpAnyH_ready (rs := [9]) (by kernel_rfl) (by simp) ?_
          refine AllReadyH.cons rfl (fun Kc hK => ?_) (AllReadyH.nil)
          clear hHeld
          go_simp
          obtain ⟨wa, hwa⟩ : ∃ q, q = vx.alloc (.cells #[.int .i64 0, .int .i64 0, .int .i64 0] 96) := ⟨_, rfl⟩
          obtain ⟨B, hB⟩ : ∃ q, q = vx.heap.size := ⟨_, rfl⟩
          have DA : Hid (DcW w w0 w1 w2 wa C a n cp M (.slice (some ⟨g, 0, none⟩) L.length gc) L) := by rw [hwa]; exact D1.out.box _
          have x0 : wa.cell? ⟨B, 0, none⟩ = some (.int .i64 0) := by rw [hwa, hB]; simp
          have x1 : wa.cell? ⟨B, 1, none⟩ = some (.int .i64 0) := by rw [hwa, hB]; simp
          have x2 : wa.cell? ⟨B, 2, none⟩ = some (.int .i64 0) := by rw [hwa, hB]; simp
          have xf : ∀ o, wa.frozen? ⟨B, o, none⟩ = false := fun o => by rw [hwa, hB]; simp
          have bC : B ≠ C := by rw [hB]; exact Nat.ne_of_gt D1.out.ne
          have bW : w1.heap.size < B := by rw [hB]; exact D1.out.sv
          have bB : B < wa.heap.size := by rw [hwa, hB]; simp
          rw [← hwa]
          try rw [← hB]
          clear hwa hB
          refine hK.out _ _ ?_ (fun hHeld => ?_)
          · exact ⟨DA.out.k0, DA.out.k1⟩
          clear hK Kc
          refine wpAnyH_ready (rs := [10]) (by kernel_rfl) (by simp) ?_
          refine AllReadyH.cons rfl (fun Kc hK => ?_) (AllReadyH.nil)
          clear hHeld
          have f0 := xf 0
          have f1 := xf 1
          have f2 := xf 2
          go_simp
          have HE : Hid (DcE w w0 w1 _ B M (.slice (some ⟨g, 0, none⟩) L.length gc) L e0 e1 e2) := Lib.hid (dce_of DA.out bW x0 x1 x2)
          refine hK.out _ _ ?_ (fun hHeld => ?_)
          · exact ⟨HE.out.k0, HE.out.k1⟩
          clear hK Kc
          refine wpAnyH_done (by kernel_rfl) ?_ _
          clear hHeld
          obtain ⟨ve, hve⟩ : ∃ q, q = (((wa.setCell ⟨B, 0, none⟩ (.int .i64 e0)).setCell ⟨B, 1, none⟩ (.int .i64 e1)).setCell ⟨B, 2, none⟩ (.int .i64 e2)) := ⟨_, rfl⟩
          rw [← hve] at HE ⊢
          clear hve
          have q0 := HE.out.r0
          have q1 := HE.out.r1
          have fr0 := HE.out.rf 0
          have fr1 := HE.out.rf 1
          have bb0 := HE.out.b0
          have bb1 := HE.out.b1
          have kk0 := HE.out.k0
          have kk1 := HE.out.k1
          go_wp2_with fail
          go_region
          obtain ⟨s0, s1⟩ := res2 (u := .int .i64 M) (v := (.slice (some ⟨g, 0, none⟩) L.length gc)) q0 q1
          have HZ := Lib.hid (dc_end (x := e0) (y := e1) (M := M) HR0.out.1 HR0.out.2.1 HE.out.bel HE.out.row hl)
          go_wp2
          exact bodyPost_ret (v := .tuple #[.agg #[.int .i64 M, (.slice (some ⟨g, 0, none⟩) L.length gc)], .int .i64 e0, .int .i64 e1]) (by simp [results, Try.results69, go_sem, s0, s1]) rfl HZ.out.drew
        · clear hHeld
          go_simp
          obtain ⟨wa, hwa⟩ : ∃ q, q = vx.alloc (.cells #[.int .i64 0, .int .i64 0, .int .i64 0] 96) := ⟨_, rfl⟩
          obtain ⟨B, hB⟩ : ∃ q, q = vx.heap.size := ⟨_, rfl⟩
          have DA : Hid (DcW w w0 w1 w2 wa C a n cp M (.slice (some ⟨g, 0, none⟩) L.length gc) L) := by rw [hwa]; exact D1.out.box _
          have x0 : wa.cell? ⟨B, 0, none⟩ = some (.int .i64 0) := by rw [hwa, hB]; simp
          have x1 : wa.cell? ⟨B, 1, none⟩ = some (.int .i64 0) := by rw [hwa, hB]; simp
          have x2 : wa.cell? ⟨B, 2, none⟩ = some (.int .i64 0) := by rw [hwa, hB]; simp
          have xf : ∀ o, wa.frozen? ⟨B, o, none⟩ = false := fun o => by rw [hwa, hB]; simp
          have bC : B ≠ C := by rw [hB]; exact Nat.ne_of_gt D1.out.ne
          have bW : w1.heap.size < B := by rw [hB]; exact D1.out.sv
          have bB : B < wa.heap.size := by rw [hwa, hB]; simp
          rw [← hwa]
          try rw [← hB]
          clear c0 c1 c2
          obtain ⟨e0, e1, e2, c0, c1, c2⟩ := dc_edge DA.out.row hq
          clear hwa hB
          refine hK.out _ _ ?_ (fun hHeld => ?_)
          · exact ⟨DA.out.k0, DA.out.k1⟩
          clear hK Kc
          refine wpAnyH_ready (rs := [8]) (by kernel_rfl) (by simp) ?_
          refine AllReadyH.cons rfl (fun Kc hK => ?_) (AllReadyH.nil)
          clear hHeld
          go_simp
          refine hK.out _ _ ?_ (fun hHeld => ?_)
          · exact ⟨DA.out.k0, DA.out.k1⟩
          clear hK Kc
          refine wpAnyH_ready (rs := [10]) (by kernel_rfl) (by simp) ?_
          refine AllReadyH.cons rfl (fun Kc hK => ?_) (AllReadyH.nil)
          clear hHeld
          have f0 := xf 0
          have f1 := xf 1
          have f2 := xf 2
          go_simp
          have HE : Hid (DcE w w0 w1 _ B M (.slice (some ⟨g, 0, none⟩) L.length gc) L e0 e1 e2) := Lib.hid (dce_of DA.out bW x0 x1 x2)
          refine hK.out _ _ ?_ (fun hHeld => ?_)
          · exact ⟨HE.out.k0, HE.out.k1⟩
          clear hK Kc
          refine wpAnyH_done (by kernel_rfl) ?_ _
          clear hHeld
          obtain ⟨ve, hve⟩ : ∃ q, q = (((wa.setCell ⟨B, 0, none⟩ (.int .i64 e0)).setCell ⟨B, 1, none⟩ (.int .i64 e1)).setCell ⟨B, 2, none⟩ (.int .i64 e2)) := ⟨_, rfl⟩
          rw [← hve] at HE ⊢
          clear hve
          have q0 := HE.out.r0
          have q1 := HE.out.r1
          have fr0 := HE.out.rf 0
          have fr1 := HE.out.rf 1
          have bb0 := HE.out.b0
          have bb1 := HE.out.b1
          have kk0 := HE.out.k0
          have kk1 := HE.out.k1
          go_wp2_with fail
          go_region
          obtain ⟨s0, s1⟩ := res2 (u := .int .i64 M) (v := (.slice (some ⟨g, 0, none⟩) L.length gc)) q0 q1
          have HZ := Lib.hid (dc_end (x := e0) (y := e1) (M := M) HR0.out.1 HR0.out.2.1 HE.out.bel HE.out.row hl)
          go_wp2
          exact bodyPost_ret (v := .tuple #[.agg #[.int .i64 M, (.slice (some ⟨g, 0, none⟩) L.length gc)], .int .i64 e0, .int .i64 e1]) (by simp [results, Try.results69, go_sem, s0, s1]) rfl HZ.out.drew
      · clear hHeld
        go_simp
        obtain ⟨wa, hwa⟩ : ∃ q, q = (v.alloc (.cells #[.int .i64 0, .int .i64 0, .int .i64 0] 96)).drew := ⟨_, rfl⟩
        obtain ⟨B, hB⟩ : ∃ q, q = v.heap.size := ⟨_, rfl⟩
        have DA : Hid (DcW w w0 w1 w2 wa C a n cp M (.slice (some ⟨g, 0, none⟩) L.length gc) L) := by rw [hwa]; exact (DV.out.box _).drew
        have x0 : wa.cell? ⟨B, 0, none⟩ = some (.int .i64 0) := by rw [hwa, hB]; show (v.alloc (.cells #[.int .i64 0, .int .i64 0, .int .i64 0] 96)).cell? ⟨v.heap.size, 0, none⟩ = _; simp
        have x1 : wa.cell? ⟨B, 1, none⟩ = some (.int .i64 0) := by rw [hwa, hB]; show (v.alloc (.cells #[.int .i64 0, .int .i64 0, .int .i64 0] 96)).cell? ⟨v.heap.size, 1, none⟩ = _; simp
        have x2 : wa.cell? ⟨B, 2, none⟩ = some (.int .i64 0) := by rw [hwa, hB]; show (v.alloc (.cells #[.int .i64 0, .int .i64 0, .int .i64 0] 96)).cell? ⟨v.heap.size, 2, none⟩ = _; simp
        have xf : ∀ o, wa.frozen? ⟨B, o, none⟩ = false := fun o => by rw [hwa, hB]; show (v.alloc (.cells #[.int .i64 0, .int .i64 0, .int .i64 0] 96)).frozen? ⟨v.heap.size, o, none⟩ = _; simp
        have bC : B ≠ C := by rw [hB]; exact Nat.ne_of_gt DV0.out.ne
        have bW : w1.heap.size < B := by rw [hB]; exact DV0.out.sv
        have bB : B < wa.heap.size := by rw [hwa, hB]; show _ < (v.alloc (.cells #[.int .i64 0, .int .i64 0, .int .i64 0] 96)).heap.size; simp
        rw [← hwa]
        try rw [← hB]
        clear hwa hB
        refine hK.out _ _ ?_ (fun hHeld => ?_)
        · exact ⟨DA.out.k0, DA.out.k1⟩
        clear hK Kc
        refine wpAnyH_ready (rs := [6]) (by kernel_rfl) (by simp) ?_
        refine AllReadyH.cons rfl (fun Kc hK => ?_) (AllReadyH.nil)
        clear hHeld
        go_simp
        go_at_call 82
        refine (HX.out _ DA.out).mono ?_
        rintro e vx ⟨q, rfl, hq, hd3, he3⟩
        have D1 := Lib.hid hd3
        obtain ⟨e0, e1, e2, c0, c1, c2⟩ := dc_edge hd3.row hq
        have p1 : (0 : Int) ≤ (q : Int) := by omega
        have p2 : (q : Int) < (L.length : Int) := by omega
        have bl : B < wa.heap.size := by have := bB; omega
        have y0 : vx.cell? ⟨B, 0, none⟩ = some (.int .i64 0) := by rw [he3.cell bl bC]; exact x0
        have y1 : vx.cell? ⟨B, 1, none⟩ = some (.int .i64 0) := by rw [he3.cell bl bC]; exact x1
        have y2 : vx.cell? ⟨B, 2, none⟩ = some (.int .i64 0) := by rw [he3.cell bl bC]; exact x2
        have yf : ∀ o, vx.frozen? ⟨B, o, none⟩ = false := fun o => by rw [World.frozen?_of_block (w := wa) (a := ⟨B, o, none⟩) (he3.2.2.2.2 B bl bC)]; exact xf o
        clear hd3 he3
        refine hK.out _ _ ?_ (fun hHeld => ?_)
        · exact ⟨D1.out.k0, D1.out.k1⟩
        clear hK Kc
        refine step_read 7 28 rfl rfl (by kernel_rfl) (by kernel_rfl) (by kernel_rfl) (fun _ _ _ h => h) (by rfl) (v := ?_) (fun w hSw => ?_) (by assumption) ?_; rotate_left; (focus ((try dsimp only at hSw); go_simp; first | done | exact rfl)); simp only [List.set]
        refine wpAnyH_ready (rs := [8]) (by kernel_rfl) (by simp) ?_
        refine AllReadyH.cons rfl (fun Kc hK => ?_) (AllReadyH.nil)
        clear hHeld
        go_simp
        refine hK.out _ _ ?_ (fun hHeld => ?_)
        · exact ⟨D1.out.k0, D1.out.k1⟩
        clear hK Kc
        refine wpAnyH_ready (rs := [10]) (by kernel_rfl) (by simp) ?_
        refine AllReadyH.cons rfl (fun Kc hK => ?_) (AllReadyH.nil)
        clear hHeld
        have f0 := yf 0
        have f1 := yf 1
        have f2 := yf 2
        go_simp
        have HE : Hid (DcE w w0 w1 _ B M (.slice (some ⟨g, 0, none⟩) L.length gc) L e0 e1 e2) := Lib.hid (dce_of D1.out bW y0 y1 y2)
        refine hK.out _ _ ?_ (fun hHeld => ?_)
        · exact ⟨HE.out.k0, HE.out.k1⟩
        clear hK Kc
        refine wpAnyH_done (by kernel_rfl) ?_ _
        clear hHeld
        obtain ⟨ve, hve⟩ : ∃ q, q = (((vx.setCell ⟨B, 0, none⟩ (.int .i64 e0)).setCell ⟨B, 1, none⟩ (.int .i64 e1)).setCell ⟨B, 2, none⟩ (.int .i64 e2)) := ⟨_, rfl⟩
        rw [← hve] at HE ⊢
        clear hve
        have q0 := HE.out.r0
        have q1 := HE.out.r1
        have fr0 := HE.out.rf 0
        have fr1 := HE.out.rf 1
        have bb0 := HE.out.b0
        have bb1 := HE.out.b1
        have kk0 := HE.out.k0
        have kk1 := HE.out.k1
        go_wp2_with fail
        go_region
        obtain ⟨s0, s1⟩ := res2 (u := .int .i64 M) (v := (.slice (some ⟨g, 0, none⟩) L.length gc)) q0 q1
        have HZ := Lib.hid (dc_end (x := e0) (y := e1) (M := M) HR0.out.1 HR0.out.2.1 HE.out.bel HE.out.row hl)
        go_wp2
        exact bodyPost_ret (v := .tuple #[.agg #[.int .i64 M, (.slice (some ⟨g, 0, none⟩) L.length gc)], .int .i64 e0, .int .i64 e1]) (by simp [results, Try.results69, go_sem, s0, s1]) rfl HZ.out.drew
  · have DV := D2
    have DV0 := Lib.hid DV.out.drew
    refine wp_region_held_drew (S := (fun w' => w'.cell? ⟨w1.heap.size, 0, none⟩ = some (.int .i64 M) ∧ w'.cell? ⟨w1.heap.size, 1, none⟩ = some (.slice ga L.length gc))) (by kernel_rfl) ?_ (fun hHeld => ?_)
    · exact ⟨DV0.out.k0, DV0.out.k1⟩
    refine step_read 0 35 rfl rfl (by kernel_rfl) (by kernel_rfl) (by kernel_rfl) (fun _ _ _ h => h) (by rfl) (v := ?_) (fun w hSw => ?_) (by assumption) ?_; rotate_left; (focus ((try dsimp only at hSw); go_simp; first | done | exact rfl)); simp only [List.set]
    refine step_read 1 36 rfl rfl (by kernel_rfl) (by kernel_rfl) (by kernel_rfl) (fun _ _ _ h => h) (by rfl) (v := ?_) (fun w hSw => ?_) (by assumption) ?_; rotate_left; (focus ((try dsimp only at hSw); go_simp; first | done | exact rfl)); simp only [List.set]
    refine step_read 2 37 rfl rfl (by kernel_rfl) (by kernel_rfl) (by kernel_rfl) (fun _ _ _ h => h) (by rfl) (v := ?_) (fun w hSw => ?_) (by assumption) ?_; rotate_left; (focus ((try dsimp only at hSw); go_simp; first | done | exact rfl)); simp only [List.set]
    refine step_read 4 39 rfl rfl (by kernel_rfl) (by kernel_rfl) (by kernel_rfl) (fun _ _ _ h => h) (by rfl) (v := ?_) (fun w hSw => ?_) (by assumption) ?_; rotate_left; (focus ((try dsimp only at hSw); go_simp; first | done | exact rfl)); simp only [List.set]
    refine step_read 5 40 rfl rfl (by kernel_rfl) (by kernel_rfl) (by kernel_rfl) (fun _ _ _ h => h) (by rfl) (v := ?_) (fun w hSw => ?_) (by assumption) ?_; rotate_left; (focus ((try dsimp only at hSw); go_simp; first | done | exact rfl)); simp only [List.set]
    refine wpAnyH_ready (rs := [3]) (by kernel_rfl) (by simp) ?_
    refine AllReadyH.cons rfl (fun Kc hK => ?_) (AllReadyH.nil)
    go_simp
    go_at_call 80
    obtain ⟨jx, hcur⟩ := DV0.out.cur
    refine (dnode_any C a n cp jx M (.slice ga L.length gc) ⟨_, _, _, rfl⟩ _ hcur).mono ?_
    rintro e vx ⟨⟨x, rfl⟩, ⟨jx2, hc3⟩, he3⟩
    have DV1 := Lib.hid (DV0.out.on hc3 he3)
    clear hc3 he3 hcur hHeld
    refine hK.out _ _ ?_ (fun hHeld => ?_)
    · exact ⟨DV1.out.k0, DV1.out.k1⟩
    clear hK Kc
    refine wpAnyH_ready (rs := [6]) (by kernel_rfl) (by simp) ?_
    refine AllReadyH.cons rfl (fun Kc hK => ?_) (AllReadyH.nil)
    go_simp
    go_at_call 80
    obtain ⟨jy, hcur⟩ := DV1.out.cur
    refine (dnode_any C a n cp jy M (.slice ga L.length gc) ⟨_, _, _, rfl⟩ _ hcur).mono ?_
    rintro e vy ⟨⟨y, rfl⟩, ⟨jy2, hc3⟩, he3⟩
    have DV2 := Lib.hid (DV1.out.on hc3 he3)
    clear hc3 he3 hcur hHeld
    refine hK.out _ _ ?_ (fun hHeld => ?_)
    · exact ⟨DV2.out.k0, DV2.out.k1⟩
    clear hK Kc
    refine wpAnyH_ready (rs := [7]) (by kernel_rfl) (by simp) ?_
    refine AllReadyH.cons rfl (fun Kc hK => ?_) (AllReadyH.nil)
    have q0 := DV2.out.r0
    have q1 := DV2.out.r1
    have f0 := DV2.out.rf 0
    have f1 := DV2.out.rf 1
    clear hHeld
    go_simp
    have dd0 := DV2.out.s0
    have dd1 := DV2.out.s1
    obtain ⟨s0, s1⟩ := res2 (u := .int .i64 M) (v := .slice ga L.length gc) q0 q1
    refine hK.out _ _ ?_ (fun hHeld => ?_)
    · exact ⟨by rw [World.cell?_setCell_other _ _ _ _ (by simp), World.cell?_setCell_other _ _ _ _ (by simp)]; exact DV2.out.k0, by rw [World.cell?_setCell_other _ _ _ _ (by simp), World.cell?_setCell_other _ _ _ _ (by simp)]; exact DV2.out.k1⟩
    clear hK Kc
    refine step_read 8 3 rfl rfl (by kernel_rfl) (by kernel_rfl) (by kernel_rfl) (fun _ _ _ h => h) (by rfl) (v := ?_) (fun w hSw => ?_) (by assumption) ?_; rotate_left; (focus ((try dsimp only at hSw); go_simp; first | done | exact rfl)); simp only [List.set]
    refine step_read 9 4 rfl rfl (by kernel_rfl) (by kernel_rfl) (by kernel_rfl) (fun _ _ _ h => h) (by rfl) (v := ?_) (fun w hSw => ?_) (by assumption) ?_; rotate_left; (focus ((try dsimp only at hSw); go_simp; first | done | exact rfl)); simp only [List.set]
    refine wpAnyH_done (by kernel_rfl) ?_ _
    clear hHeld
    have HE := Lib.hid (dc_end (x := x) (y := y) (M := M) HR0.out.1 HR0.out.2.1 DV2.out.bel (DV2.out.row.wide (by have := DV2.out.c0; omega) (by have := DV2.out.sv; omega)) hl)
    go_wp2
    exact bodyPost_ret (v := .tuple #[.agg #[.int .i64 M, .slice ga L.length gc], .int .i64 x, .int .i64 y]) (by simp [results, Try.results69, go_sem, s0, s1]) rfl HE.out

theorem Gw.steps {N : Int} {L : List Ed} {o : Int} {S : Int → Int} {l : List Int} (h : Gw N L o S l) : 0 < l.length ∧ wat l (l.length - 1) = o ∧ ∀ i, i + 1 < l.length → tgP N L o (wat l i) (wat l (i + 1)) := by
  induction h with
  | one => exact ⟨by simp, rfl, fun i hi => by simp at hi⟩
  | cons x y l hxo hn hmin hg ih =>
    obtain ⟨_, h1, h2⟩ := ih
    refine ⟨by simp, ?_, fun i hi => ?_⟩
    · rw [← h1]
      unfold wat
      simp only [List.length_cons]
      rw [show l.length + 1 + 1 - 1 = (l.length + 1 - 1) + 1 by omega]
      rfl
    · cases i with
      | zero => exact hn.1
      | succ i => exact h2 i (by simp only [List.length_cons] at hi ⊢; omega)
theorem way_cost {N : Int} {L : List Ed} {o : Int} {S : Int → Int} {l : List Int} (h : Gw N L o S l) : ∀ k, k < l.length → wyS L l (k + 1) + dsT N L (wat l k) o = dsT N L (wat l 0) o
  | 0, _ => by show 0 + _ = _; omega
  | k + 1, hk => by
    have ih := way_cost h k (by omega)
    have hs := h.steps.2.2 k (by omega)
    show wyS L l (k + 1) + cst L (wat l k) (wat l (k + 1)) + _ = _
    have := hs.2.2
    omega
theorem way_near {N : Int} {L : List Ed} {o : Int} {S : Int → Int} {l : List Int} (hG : gok N L = true) (h0 : 0 ≤ wat l 0 ∧ wat l 0 < N) (h : Gw N L o S l) : ∀ k, k < l.length → (0 ≤ wat l k ∧ wat l k < N) ∧ dsT N L (wat l 0) (wat l k) ≠ Far ∧ dsT N L (wat l 0) (wat l k) ≤ wyS L l (k + 1)
  | 0, _ => ⟨h0, by rw [dsT_self hG h0]; unfold Far; omega, by rw [dsT_self hG h0]; exact Int.le_refl _⟩
  | k + 1, hk => by
    obtain ⟨i1, i2, i3⟩ := way_near hG h0 h k (by omega)
    have hs := h.steps.2.2 k (by omega)
    have hf := tgP.facts hG hs
    have hd := dsT_on hG h0 i2 hs.1
    refine ⟨hf.2.1, fun e => by rw [e] at hd; unfold Far at hd; omega, ?_⟩
    show _ ≤ wyS L l (k + 1) + cst L (wat l k) (wat l (k + 1))
    omega
theorem way_all {M s o : Nat} {L : List Ed} {l : List Int} (hG : gok (M : Int) L = true) (hs : s < M) (ho : o < M) (h : WayP (M : Int) L (s : Int) (o : Int) l) :
    wcM (M : Int) L ((s : Int) :: l) = dsT (M : Int) L (s : Int) (o : Int) ∧ wat ((s : Int) :: l) l.length = (o : Int) ∧ (∀ i, i < l.length + 1 → (0 ≤ wat ((s : Int) :: l) i ∧ wat ((s : Int) :: l) i < (M : Int)) ∧ dsT (M : Int) L (s : Int) (wat ((s : Int) :: l) i) + dsT (M : Int) L (wat ((s : Int) :: l) i) (o : Int) = dsT (M : Int) L (s : Int) (o : Int)) ∧ ∀ i, i + 1 < l.length + 1 → tgP (M : Int) L (o : Int) (wat ((s : Int) :: l) i) (wat ((s : Int) :: l) (i + 1)) := by
  have hlen := h.len hG ⟨by omega, by omega⟩
  have hne := h.near hG ⟨by omega, by omega⟩
  have hN := gok_parts hG
  obtain ⟨S, hS, hg⟩ := h
  have hst := hg.steps
  have h0 : 0 ≤ wat ((s : Int) :: l) 0 ∧ wat ((s : Int) :: l) 0 < (M : Int) := by show 0 ≤ (s : Int) ∧ (s : Int) < (M : Int); omega
  have hlast : wat ((s : Int) :: l) l.length = (o : Int) := by have := hst.2.1; simpa using this
  have hnear := way_near hG h0 hg
  have hcost := way_cost hg
  simp only [List.length_cons] at hnear hcost hst
  refine ⟨?_, hlast, fun i hi => ?_, fun i hi => hst.2.2 i hi⟩
  · rw [wcM_yes hG (by simp) (by simp; omega) ?_]
    · have := hcost l.length (by omega)
      rw [hlast, dsT_self hG ⟨by omega, by omega⟩] at this
      show wyS L ((s : Int) :: l) (l.length + 1) = dsT (M : Int) L (wat ((s : Int) :: l) 0) (o : Int)
      omega
    · intro i hi
      simp only [List.length_cons] at hi
      have hn := (hnear i hi).1
      unfold stepB
      rw [show ndB (M : Int) (wat ((s : Int) :: l) i) = true by unfold ndB; rw [inB_iff]; omega, Bool.true_and]
      cases i with
      | zero => rfl
      | succ i =>
        have := (hst.2.2 i (by omega)).1
        unfold Far at this
        rw [show i + 1 - 1 = i by omega]
        simp [this]
  · obtain ⟨h1, h2, h3⟩ := hnear i hi
    refine ⟨h1, ?_⟩
    have hc := hcost i hi
    have e : wat ((s : Int) :: l) 0 = (s : Int) := rfl
    rw [e] at h2 h3 hc
    have hb1 := dsT_in hG hs (wat ((s : Int) :: l) i)
    have hb2 := dsT_in hG hs (o : Int)
    unfold Far at h2 hne
    have hx := dsT_in (x := (wat ((s : Int) :: l) i).toNat) hG (by omega) (o : Int)
    rw [show (((wat ((s : Int) :: l) i).toNat : Nat) : Int) = wat ((s : Int) :: l) i by omega] at hx
    have ht := dsT_tri (N := (M : Int)) (L := L) (i := (s : Int)) (j := (o : Int)) (k := wat ((s : Int) :: l) i) hG ⟨by omega, by omega⟩ (by unfold Far; omega) (by unfold Far; omega)
    omega

/-- Both answer the way Z of m nodes, or that there is none. -/
def BothCw (N : Int) (L : List Ed) (x y : Int) (m : Nat) (Z : List Int) (b : Bool) : Prop := ∀ (lo hi n : Nat) (v : Value) (w : World), L.length = n → Row 3 w lo hi v n (flat L) → hi ≤ w.heap.size →
  Calls Try.prog 33 #[.agg #[.int .i64 N, v], .int .i64 x, .int .i64 y] w (CwPost m Z b w) ∧ Calls Try.prog 34 #[.agg #[.int .i64 N, v], .int .i64 x, .int .i64 y] w (CwPost m Z b w)
theorem cw_any (N : Int) (L : List Ed) (x y : Int) : (∃ (M s o : Nat) (l : List Int), N = (M : Int) ∧ x = (s : Int) ∧ y = (o : Int) ∧ gok (M : Int) L = true ∧ s < M ∧ o < M ∧ WayP (M : Int) L (s : Int) (o : Int) l ∧ BothCw N L x y (l.length + 1) ((s : Int) :: l) true) ∨
    (¬ (gok N L = true ∧ ndB N x = true ∧ ndB N y = true ∧ dsT N L x y ≠ Far) ∧ BothCw N L x y 0 [] false) := by
  by_cases hG : gok N L = true
  · obtain ⟨M, rfl⟩ : ∃ M : Nat, N = (M : Int) := ⟨N.toNat, by have := (gok_parts hG).1; omega⟩
    have hM := (gok_parts hG).2.1
    by_cases hs : ndB (M : Int) x = true
    · have hs' := hs
      unfold ndB at hs'
      rw [inB_iff] at hs'
      obtain ⟨s, rfl⟩ : ∃ s : Nat, x = (s : Int) := ⟨x.toNat, by omega⟩
      have hsM : s < M := by omega
      have hs2 : 0 ≤ (s : Int) ∧ (s : Int) < (M : Int) := ⟨by omega, by omega⟩
      by_cases ho : ndB (M : Int) y = true
      · have ho' := ho
        unfold ndB at ho'
        rw [inB_iff] at ho'
        obtain ⟨o, rfl⟩ : ∃ o : Nat, y = (o : Int) := ⟨y.toNat, by omega⟩
        have hoM : o < M := by omega
        have ho2 : 0 ≤ (o : Int) ∧ (o : Int) < (M : Int) := ⟨by omega, by omega⟩
        by_cases hd : dsT (M : Int) L (s : Int) (o : Int) = Far
        · refine .inr ⟨fun h => h.2.2.2 hd, fun lo hi n v w hln hr hh => ⟨scw_far M lo hi n v L s o w hln hr hh hG hsM hoM hd, icw_yes M lo hi n v L s (o : Int) w hln hr hh hG hsM 0 [] false (fun P hP t ht hl => ?_) (fun _ _ _ => ⟨rfl, rfl, rfl⟩)⟩⟩
          have h1 := hP.dis hG hs2 ht
          have h2 := hP.cost hG hs2 ht
          rw [hl, hd] at h1
          unfold Far at h1
          omega
        · obtain ⟨l, hl⟩ := WayP.ex hG hs2 ho2 hd
          refine .inl ⟨M, s, o, l, rfl, rfl, rfl, hG, hsM, hoM, hl, fun lo hi n v w hln hr hh => ⟨scw_yes M lo hi n v L s o w hln hr hh hG hsM hoM l hl, icw_yes M lo hi n v L s (o : Int) w hln hr hh hG hsM (l.length + 1) ((s : Int) :: l) true (fun P hP t ht h => ⟨hl.found hG hs2 ho2 hP ht h, rfl, rfl⟩) (fun P hP h => ?_)⟩⟩
          obtain ⟨t, ht, h2⟩ := hP.all_dis hG hd
          exact absurd h2 (h t ht)
      · rw [Bool.not_eq_true] at ho
        refine .inr ⟨fun h => by rw [ho] at h; exact absurd h.2.2.1 (by decide), fun lo hi n v w hln hr hh => ⟨scw_no2 (M : Int) lo hi n v L (s : Int) y w hln hr hh ⟨hG, hs, ho⟩, icw_yes M lo hi n v L s y w hln hr hh hG hsM 0 [] false (fun P hP t ht hl => ?_) (fun _ _ _ => ⟨rfl, rfl, rfl⟩)⟩⟩
        have h1 := ((hP.best t ht).1.bounds hG hs2).2.2.2.1
        rw [hl] at h1
        have h2 : ndB (M : Int) y = true := by unfold ndB; rw [inB_iff]; omega
        rw [ho] at h2
        cases h2
    · rw [Bool.not_eq_true] at hs
      exact .inr ⟨fun h => by rw [hs] at h; exact absurd h.2.1 (by decide), fun lo hi n v w hln hr hh => ⟨scw_no1 (M : Int) lo hi n v L x y w hln hr hh ⟨hG, hs⟩, icw_no1 (M : Int) lo hi n v L x y w hln hr hh ⟨hG, hs⟩⟩⟩
  · rw [Bool.not_eq_true] at hG
    exact .inr ⟨fun h => by rw [hG] at h; exact absurd h.1 (by decide), fun lo hi n v w hln hr hh => ⟨scw_no0 N lo hi n v L x y w hln hr hh hG, icw_no0 N lo hi n v L x y w hln hr hh hG⟩⟩
theorem scn_pos {M s o : Nat} {L : List Ed} {c : Int} (hG : gok (M : Int) L = true) (hs : s < M) (ho : o < M) (hd : dsT (M : Int) L (s : Int) (o : Int) ≠ Far) (h : scnP (M : Int) L (s : Int) (o : Int) c) : 0 < c := by
  unfold scnP at h
  rw [if_pos ⟨hG, by unfold ndB; rw [inB_iff]; omega, by unfold ndB; rw [inB_iff]; omega⟩] at h
  obtain ⟨S, W, hp, rfl⟩ := h
  exact (hp.step (s : Int) ⟨by omega, by omega⟩ hd).2.1
theorem scn_none {N : Int} {L : List Ed} {x y c : Int} (hn : ¬ (gok N L = true ∧ ndB N x = true ∧ ndB N y = true ∧ dsT N L x y ≠ Far)) (h : scnP N L x y c) : ¬ 0 < c := by
  unfold scnP at h
  by_cases h3 : gok N L = true ∧ ndB N x = true ∧ ndB N y = true
  · rw [if_pos h3] at h
    obtain ⟨S, W, hp, rfl⟩ := h
    have hd : dsT N L x y = Far := Classical.byContradiction fun hd => hn ⟨h3.1, h3.2.1, h3.2.2, hd⟩
    have hx := h3.2.1
    unfold ndB at hx
    rw [inB_iff] at hx
    have := (hp.far x ⟨by omega, by omega⟩ hd).2
    omega
  · rw [if_neg h3] at h
    omega

theorem cell_kept {w w' : World} {p : Addr} {v : Value} (h : Below w.heap.size w w') (hc : w.cell? p = some v) : w'.cell? p = some v := by rw [h.cell (lt_of_cell hc).1]; exact hc
/-- A table of numbers lies in memory. -/
def NumsAt (w : World) (G K : Nat) (f : Int → Int) : Prop := ∀ d, d < K → w.cell? ⟨G, d, none⟩ = some (.int .i64 (f (d : Int)))
theorem nums_of {w : World} {G K : Nat} {f : Int → Int} (h : ∀ j z, (tabI K f)[j]? = some z → w.cell? ⟨G, j, none⟩ = some (.int .i64 z)) : NumsAt w G K f := fun d hd => h d _ (tabI_at f hd)
theorem distL_yes {M s : Nat} {L : List Ed} (hG : gok (M : Int) L = true) (hs : s < M) : distL (M : Int) L (s : Int) = tabI M (dsT (M : Int) L (s : Int)) := by
  unfold distL
  rw [distN_yes hG hs]
  rfl
theorem wat_get {W : List Int} {i : Nat} (h : i < W.length) : W[i]? = some (wat W i) := by
  unfold wat
  rw [List.getD_eq_getElem?_getD, List.getElem?_eq_getElem h]
  rfl
theorem nd_of {M : Nat} {z : Int} (h0 : 0 ≤ z) (h1 : z < (M : Int)) : ndB (M : Int) z = true := by unfold ndB; rw [inB_iff]; omega
theorem way_on {M s o : Nat} {L : List Ed} {l : List Int} (hG : gok (M : Int) L = true) (hs : s < M) (ho : o < M) (h : WayP (M : Int) L (s : Int) (o : Int) l) {i : Nat} (hi : i < l.length + 1) : onwB (M : Int) L (s : Int) (o : Int) (wat ((s : Int) :: l) i) = true := by
  obtain ⟨_, _, h3, _⟩ := way_all hG hs ho h
  obtain ⟨⟨h0, h1⟩, h2⟩ := h3 i hi
  generalize wat ((s : Int) :: l) i = z at h0 h1 h2
  obtain ⟨z, rfl⟩ : ∃ q : Nat, z = (q : Int) := ⟨z.toNat, (Int.toNat_of_nonneg h0).symm⟩
  have hne := h.near hG ⟨by omega, by omega⟩
  unfold Far at hne
  rw [onw_yes hG (nd_of (by omega) (by omega)) (nd_of (by omega) (by omega)) (nd_of (by omega) (by omega))]
  unfold btwB
  rw [h2]
  simp [hne]
theorem way_hop {M s o : Nat} {L : List Ed} {l : List Int} (hG : gok (M : Int) L = true) (hs : s < M) (ho : o < M) (h : WayP (M : Int) L (s : Int) (o : Int) l) {i : Nat} (hi : i + 1 < l.length + 1) : hasB (hopsL (M : Int) L (wat ((s : Int) :: l) i) (o : Int)) (wat ((s : Int) :: l) (i + 1)) = true := by
  have hN := gok_parts hG
  obtain ⟨_, _, h3, h4⟩ := way_all hG hs ho h
  obtain ⟨⟨h0, h1⟩, _⟩ := h3 i (by omega)
  obtain ⟨⟨k0, k1⟩, _⟩ := h3 (i + 1) hi
  have ht := h4 i hi
  have hm : wat ((s : Int) :: l) (i + 1) ∈ hopsL (M : Int) L (wat ((s : Int) :: l) i) (o : Int) := by
    unfold hopsL
    rw [if_pos ⟨hG, nd_of h0 h1, nd_of (by omega) (by omega)⟩]
    exact mem_setL.2 ⟨⟨k0, by omega⟩, decide_eq_true ht⟩
  obtain ⟨j, hj⟩ := List.mem_iff_getElem?.1 hm
  exact hasB_yes hj
set_option maxRecDepth 100000 in
set_option maxHeartbeats 4000000 in
theorem dcw_any (a : Option Addr) (n cp : Nat) (w : World) (hb : BytesAt w a n) (hold : ∀ p : Addr, a = some p → p.block < w.heap.size) : Calls Try.prog 32 #[.slice a n cp] w (DcPost w) := by
  have HO := Lib.hid hold
  have HB := Lib.hid hb
  clear hb hold
  go_enter Try.func32, Try.ntmps32
  go_wp2_with fail
  obtain ⟨w0, hw0⟩ : ∃ q, q = (w.alloc (.cells #[.int .i64 0, .slice none 0 0] 29)) := ⟨_, rfl⟩
  have HR0 : Hid (w0.heap.size = w.heap.size + 1 ∧ Below w.heap.size w w0 ∧ BytesAt w0 a n ∧ w0.cell? ⟨w.heap.size, 0, none⟩ = some (.int .i64 0) ∧ w0.cell? ⟨w.heap.size, 1, none⟩ = some (.slice none 0 0) ∧ ∀ o, w0.frozen? ⟨w.heap.size, o, none⟩ = false) :=
    ⟨by rw [hw0]; simp, by rw [hw0]; exact (Below.refl _ _).alloc (Nat.le_refl _) _, by rw [hw0]; exact BytesAt.alloc HB.out _, by rw [hw0]; show _ = _; simp, by rw [hw0]; show _ = _; simp, fun o => by rw [hw0]; show _ = _; simp⟩
  rw [← hw0]
  clear hw0 HB
  go_at_call 69
  refine (dcost_any a n cp w0 HR0.out.2.2.1 (fun p e => by have := HO.out p e; have := HR0.out.1; omega)).mono ?_
  rintro e w1 ⟨M, gv, L, x, y, rfl, hr, hl, hb1⟩
  obtain ⟨ga, gc, hgv⟩ := hr.slice
  subst hgv
  have hs0 := HR0.out.1
  have q0 : w1.cell? ⟨w.heap.size, 0, none⟩ = some (.int .i64 0) := by rw [hb1.cell (p := ⟨w.heap.size, 0, none⟩) (by show w.heap.size < _; omega)]; exact HR0.out.2.2.2.1
  have q1 : w1.cell? ⟨w.heap.size, 1, none⟩ = some (.slice none 0 0) := by rw [hb1.cell (p := ⟨w.heap.size, 1, none⟩) (by show w.heap.size < _; omega)]; exact HR0.out.2.2.2.2.1
  have f0 : w1.frozen? ⟨w.heap.size, 0, none⟩ = false := by rw [hb1.frozen (p := ⟨w.heap.size, 0, none⟩) (by show w.heap.size < _; omega)]; exact HR0.out.2.2.2.2.2 0
  have f1 : w1.frozen? ⟨w.heap.size, 1, none⟩ = false := by rw [hb1.frozen (p := ⟨w.heap.size, 1, none⟩) (by show w.heap.size < _; omega)]; exact HR0.out.2.2.2.2.2 1
  have HE := Lib.hid (dc_end (x := x) (y := y) (M := M) HR0.out.1 HR0.out.2.1 hb1 hr hl)
  obtain ⟨s0, s1⟩ := res2 (u := .int .i64 M) (v := .slice ga L.length gc) q0 q1
  clear hr hb1 HO
  go_wp2
  exact bodyPost_ret (v := .tuple #[.agg #[.int .i64 M, .slice ga L.length gc], .int .i64 x, .int .i64 y]) (by simp [results, Try.results32, go_sem, s0, s1]) rfl HE.out
set_option maxRecDepth 100000 in
set_option maxHeartbeats 4000000 in
theorem fncheap_any (a : Option Addr) (n cp : Nat) (w : World) (hb : n ≤ 1099511627776 → BytesAt w a n) (hold : ∀ p : Addr, a = some p → p.block < w.heap.size) : Calls Try.prog 9 #[.slice a n cp] w fun e w' => e = .returned (.bool true) ∧ Below w.heap.size w w' := by
  have HO := Lib.hid hold
  have HB := Lib.hid hb
  clear hb hold
  go_enter Try.func9, Try.ntmps9
  go_wp2_with fail
  go_at_call 31
  refine (big_any a n cp _).mono ?_
  rintro e w' ⟨rfl, rfl⟩
  by_cases hbig : (n : Int) > 1048576
  · rw [decide_eq_true hbig]
    go_wp2_with fail
    go_ret
    exact ⟨rfl, Below.refl _ _⟩
  rw [decide_eq_false hbig]
  go_wp2_with fail
  go_at_call 32
  refine (dcw_any a n cp _ (HB.out (by omega)) HO.out).mono ?_
  rintro e w1 ⟨N, gv, L, x, y, rfl, hr, hl, hb1⟩
  obtain ⟨ga, gc, hgv⟩ := hr.slice
  subst hgv
  have HR1 := Lib.hid hr
  clear hr HB HO hbig
  go_wp2_with fail
  obtain ⟨w2, hw2⟩ : ∃ q, q = w1.alloc (.cells #[.int .i64 N, .slice ga L.length gc] 29) := ⟨_, rfl⟩
  obtain ⟨X, hX⟩ : ∃ q, q = w1.heap.size := ⟨_, rfl⟩
  have x0 : w2.cell? ⟨X, 0, none⟩ = some (.int .i64 N) := by rw [hw2, hX]; simp
  have x1 : w2.cell? ⟨X, 1, none⟩ = some (.slice ga L.length gc) := by rw [hw2, hX]; simp
  have hb2 : Below w1.heap.size w1 w2 := by rw [hw2]; exact (Below.refl _ _).alloc (Nat.le_refl _) _
  have HR2 : Hid (Row 3 w2 w.heap.size w1.heap.size (.slice ga L.length gc) L.length (flat L)) := HR1.out.below hb2 (Nat.le_refl _)
  have HB2 : Hid (Below w.heap.size w w2) := hb1.trans (hb2.mono hb1.size)
  have hs12 := hb2.size
  rw [← hw2, ← hX]
  clear hw2 hX hb2 hb1 HR1
  have hsc : scnP N L x y (cntN N L x y) := by
    obtain ⟨_, _, ⟨c, _, hc⟩, _⟩ := calls_ends (scount_any N _ _ _ _ L x y w2 rfl HR2.out hs12)
    rw [cntN_eq hc]
    exact hc
  obtain ⟨c, hc⟩ : ∃ c, cntN N L x y = c := ⟨_, rfl⟩
  rw [hc] at hsc
  have HC0 := Lib.hid hc
  clear hc
  rcases cw_any N L x y with ⟨K, s, o, l, rfl, rfl, rfl, hG, hs, ho, hW, hCw⟩ | ⟨hno, hCw⟩
  · have hcp := scn_pos hG hs ho (hW.near hG ⟨by omega, by omega⟩) hsc
    have hcd : decide (c > 0) = true := decide_eq_true hcp
    have hN := gok_parts hG
    have hlen := hW.len hG ⟨by omega, by omega⟩
    obtain ⟨p, hp⟩ : ∃ p, p = l.length := ⟨_, rfl⟩
    obtain ⟨m, hm⟩ : ∃ m, m = p + 1 := ⟨_, rfl⟩
    have HON : Hid (∀ i, i < m → onwB (K : Int) L (s : Int) (o : Int) (wat ((s : Int) :: l) i) = true) := fun i hi => way_on hG hs ho hW (by omega)
    have HHP : Hid (∀ i, i + 1 < m → hasB (hopsL (K : Int) L (wat ((s : Int) :: l) i) (o : Int)) (wat ((s : Int) :: l) (i + 1)) = true) := fun i hi => way_hop hG hs ho hW (by omega)
    obtain ⟨ha1, ha2, _, _⟩ := way_all hG hs ho hW
    obtain ⟨dd, hdd⟩ : ∃ d, dsT (K : Int) L (s : Int) (o : Int) = d := ⟨_, rfl⟩
    rw [hdd] at ha1
    rw [← hp] at ha2 hCw
    rw [← hm] at hCw
    have ha3 : wat ((s : Int) :: l) 0 = (s : Int) := rfl
    have hZl : ((s : Int) :: l).length = m := by simp [← hp, hm]
    generalize (s : Int) :: l = W at HON HHP ha1 ha2 ha3 hZl hCw
    have hm6 : m ≤ 1000000 := by omega
    have HML : Hid (m = p + 1 ∧ m ≤ 10 ∧ W.length = m) := ⟨hm, by omega, hZl⟩
    have HA1 := Lib.hid ha1
    have HA2 := Lib.hid ha2
    have HA3 := Lib.hid ha3
    have HDD := Lib.hid hdd
    clear hW hsc hlen hp hm hZl ha1 ha2 ha3 hdd
    go_at_call 33
    refine ((hCw _ _ _ _ _ rfl HR2.out hs12).1).mono ?_
    rintro e w3 ⟨rv1, rfl, hz1, hb3⟩
    obtain ⟨a1, c1, e1⟩ := hz1.slice
    subst e1
    have y0 := cell_kept hb3 x0
    have y1 := cell_kept hb3 x1
    have HR3 : Hid (Row 3 w3 w.heap.size w1.heap.size (.slice ga L.length gc) L.length (flat L)) := HR2.out.below hb3 hs12
    have HB3 : Hid (Below w.heap.size w w3) := HB2.out.trans (hb3.mono HB2.out.size)
    have hs13 : w1.heap.size ≤ w3.heap.size := Nat.le_trans hs12 hb3.size
    have HZ1 := Lib.hid hz1
    clear HR2 HB2 hb3 hs12 x0 x1 hz1
    go_wp2_with fail
    go_at_call 34
    refine ((hCw _ _ _ _ _ rfl HR3.out hs13).2).mono ?_
    rintro e w4 ⟨rv2, rfl, hz2, hb4⟩
    obtain ⟨a2, c2, e1⟩ := hz2.slice
    subst e1
    have x0 := cell_kept hb4 y0
    have x1 := cell_kept hb4 y1
    have HR4 : Hid (Row 3 w4 w.heap.size w1.heap.size (.slice ga L.length gc) L.length (flat L)) := HR3.out.below hb4 hs13
    have HB4 : Hid (Below w.heap.size w w4) := HB3.out.trans (hb4.mono HB3.out.size)
    have hs14 : w1.heap.size ≤ w4.heap.size := Nat.le_trans hs13 hb4.size
    have HZ1' := Lib.hid (HZ1.out.below hb4 (Nat.le_refl _))
    have HZ2 := Lib.hid hz2
    have HCw := Lib.hid hCw
    clear HR3 HB3 hb4 hs13 y0 y1 hz2 HZ1 hCw
    go_wp2_with fail
    go_at_call 35
    refine (same_row HML.out.2.2 hm6 HZ2.out HZ1'.out).mono ?_
    rintro e w5 ⟨rfl, hb5⟩
    have y0 := cell_kept hb5 x0
    have y1 := cell_kept hb5 x1
    have HR5 : Hid (Row 3 w5 w.heap.size w1.heap.size (.slice ga L.length gc) L.length (flat L)) := HR4.out.below hb5 hs14
    have HB5 : Hid (Below w.heap.size w w5) := HB4.out.trans (hb5.mono HB4.out.size)
    have hs15 : w1.heap.size ≤ w5.heap.size := Nat.le_trans hs14 hb5.size
    have HZ3 := Lib.hid (HZ2.out.below hb5 (Nat.le_refl _))
    have hw45 : w4.heap.size ≤ w5.heap.size := hb5.size
    clear HR4 HB4 hb5 hs14 x0 x1 HZ2 HZ1'
    go_wp2_with fail
    go_at_call 36
    refine (icnt_any _ _ _ _ _ L _ _ w5 rfl HR5.out hs15).mono ?_
    rintro e w6 ⟨rfl, hb6⟩
    rw [HC0.out]
    have x0 := cell_kept hb6 y0
    have x1 := cell_kept hb6 y1
    have HR6 : Hid (Row 3 w6 w.heap.size w1.heap.size (.slice ga L.length gc) L.length (flat L)) := HR5.out.below hb6 hs15
    have HB6 : Hid (Below w.heap.size w w6) := HB5.out.trans (hb6.mono HB5.out.size)
    have hs16 : w1.heap.size ≤ w6.heap.size := Nat.le_trans hs15 hb6.size
    have HZ4 := Lib.hid (HZ3.out.below hb6 hw45)
    have hw46 : w4.heap.size ≤ w6.heap.size := Nat.le_trans hw45 hb6.size
    clear HR5 HB5 hb6 hs15 y0 y1 HZ3
    go_wp2_with fail
    go_at_call 37
    refine (scnt_any _ _ _ _ _ L _ _ w6 rfl HR6.out hs16).mono ?_
    rintro e wb ⟨rfl, hb7⟩
    rw [HC0.out]
    have y0 := cell_kept hb7 x0
    have y1 := cell_kept hb7 x1
    have HRb : Hid (Row 3 wb w.heap.size w1.heap.size (.slice ga L.length gc) L.length (flat L)) := HR6.out.below hb7 hs16
    have HBb : Hid (Below w.heap.size w wb) := HB6.out.trans (hb7.mono HB6.out.size)
    have hsb : w1.heap.size ≤ wb.heap.size := Nat.le_trans hs16 hb7.size
    have HZ5 := Lib.hid (HZ4.out.below hb7 hw46)
    have hw4b : w4.heap.size ≤ wb.heap.size := Nat.le_trans hw46 hb7.size
    clear HR6 HB6 hb7 hs16 x0 x1 HZ4 HC0
    go_wp2_with fail
    have hml := HML.out
    have hm0 : 0 < m := by omega
    obtain ⟨g, cg, e1, _, hgh, hcell⟩ := row_cells hm0 HZ5.out
    cases e1
    have HCc := Lib.hid hcell
    have g0 := hcell 0 _ (wat_get (by omega))
    have gp := hcell p _ (wat_get (by omega))
    rw [HA3.out] at g0
    rw [HA2.out] at gp
    have HG := Lib.hid hG
    have hK1 : 0 < K ∧ K ≤ 10 := by omega
    have o1 : (0 : Int) ≤ (o : Int) := by omega
    have o2 : (o : Int) < (K : Int) := by omega
    have m1 : (0 : Int) < (m : Int) := by omega
    have p1 : (0 : Int) ≤ (p : Int) := by omega
    have p2 : (p : Int) < (m : Int) := by omega
    have hsub : IntKind.i64.wrap ((m : Int) - 1) = (p : Int) := (IntWalk.i64_in _ (by omega)).trans (by omega)
    have hml2 : m ≤ 10 := hml.2.1
    clear hcell hgh hN hG hcp hcd HCw hml
    refine wp_region_held_drew (S := (fun w' => w'.cell? ⟨X, 0, none⟩ = some (.int .i64 (K : Int)) ∧ w'.cell? ⟨X, 1, none⟩ = some (.slice ga L.length gc) ∧ w'.cell? ⟨g, 0, none⟩ = some (.int .i64 (s : Int)) ∧ w'.cell? ⟨g, p, none⟩ = some (.int .i64 (o : Int)) ∧ Hid (Below wb.heap.size wb w'))) (by kernel_rfl) ?_ (fun hHeld => ?_)
    · exact ⟨y0, y1, g0, gp, Lib.hid (Below.refl _ _).drew⟩
    refine step_read 0 61 rfl rfl (by kernel_rfl) (by kernel_rfl) (by kernel_rfl) (fun _ _ _ h => h) (by rfl) (v := ?_) (fun w hSw => ?_) (by assumption) ?_; rotate_left; (focus ((try dsimp only at hSw); go_simp; first | done | exact rfl)); simp only [List.set]
    refine step_read 1 62 rfl rfl (by kernel_rfl) (by kernel_rfl) (by kernel_rfl) (fun _ _ _ h => h) (by rfl) (v := ?_) (fun w hSw => ?_) (by assumption) ?_; rotate_left; (focus ((try dsimp only at hSw); go_simp; first | done | exact rfl)); simp only [List.set]
    refine step_read 3 64 rfl rfl (by kernel_rfl) (by kernel_rfl) (by kernel_rfl) (fun _ _ _ h => h) (by rfl) (v := ?_) (fun w hSw => ?_) (by assumption) ?_; rotate_left; (focus ((try dsimp only at hSw); go_simp; first | done | exact rfl)); simp only [List.set]
    refine step_read 4 65 rfl rfl (by kernel_rfl) (by kernel_rfl) (by kernel_rfl) (fun _ _ _ h => h) (by rfl) (v := ?_) (fun w hSw => ?_) (by assumption) ?_; rotate_left; (focus ((try dsimp only at hSw); go_simp; first | done | exact rfl)); simp only [List.set]
    refine step_read 6 67 rfl rfl (by kernel_rfl) (by kernel_rfl) (by kernel_rfl) (fun _ _ _ h => h) (by rfl) (v := ?_) (fun w hSw => ?_) (by assumption) ?_; rotate_left; (focus ((try dsimp only at hSw); go_simp; first | done | exact rfl)); simp only [List.set]
    refine wpAnyH_ready (rs := [2]) (by kernel_rfl) (by simp) ?_
    refine AllReadyH.cons rfl (fun Kc hK => ?_) (AllReadyH.nil)
    go_simp
    go_at_call 38
    have hh := hHeld.2.2.2.2
    refine (iwc_any (K : Int) _ _ L.length _ L _ _ m _ W _ rfl (HRb.out.below hh.out hsb) (Nat.le_trans hsb hh.out.size) (HZ5.out.below hh.out hw4b) (Nat.le_trans hw4b hh.out.size)).mono ?_
    rintro e wq ⟨rfl, hbq⟩
    rw [HA1.out]
    have c1 := cell_kept hbq hHeld.1
    have c2 := cell_kept hbq hHeld.2.1
    have c3 := cell_kept hbq hHeld.2.2.1
    have c4 := cell_kept hbq hHeld.2.2.2.1
    have c5 : Hid (Below wb.heap.size wb wq) := hh.out.trans (hbq.mono hh.out.size)
    clear hHeld hh hbq
    refine hK.out _ _ ?_ (fun hHeld => ?_)
    · exact ⟨c1, c2, c3, c4, c5⟩
    clear hK Kc
    refine wpAnyH_ready (rs := [5]) (by kernel_rfl) (by simp) ?_
    refine AllReadyH.cons rfl (fun Kc hK => ?_) (AllReadyH.nil)
    clear c1 c2 c3 c4 c5
    go_simp
    go_at_call 39
    have hh := hHeld.2.2.2.2
    refine (sdist_any (K : Int) _ _ L.length _ L (s : Int) _ rfl (HRb.out.below hh.out hsb) (Nat.le_trans hsb hh.out.size)).mono ?_
    rintro e wq ⟨dv, rfl, hdr, hbq⟩
    rw [distN_yes HG.out hs, distL_yes HG.out hs] at hdr
    obtain ⟨D, cd, e1, _, _, hdc⟩ := row_cells hK1.1 hdr
    subst e1
    have u0 := nums_of hdc o ho
    rw [HDD.out] at u0
    have c1 := cell_kept hbq hHeld.1
    have c2 := cell_kept hbq hHeld.2.1
    have c3 := cell_kept hbq hHeld.2.2.1
    have c4 := cell_kept hbq hHeld.2.2.2.1
    have c5 : Hid (Below wb.heap.size wb wq) := hh.out.trans (hbq.mono hh.out.size)
    clear hHeld hh hbq hdr hdc
    refine hK.out _ _ ?_ (fun hHeld => ?_)
    · exact ⟨c1, c2, c3, c4, c5⟩
    clear hK Kc
    refine step_read 7 68 rfl rfl (by kernel_rfl) (by kernel_rfl) (by kernel_rfl) (fun _ _ _ h => h) (by rfl) (v := ?_) (fun w hSw => ?_) (by assumption) ?_; rotate_left; (focus ((try dsimp only at hSw); go_simp; first | done | exact rfl)); simp only [List.set]
    refine wpAnyH_ready (rs := [8]) (by kernel_rfl) (by simp) ?_
    refine AllReadyH.cons rfl (fun Kc hK => ?_) (AllReadyH.nil)
    clear c1 c2 c3 c4 c5
    go_simp
    refine hK.out _ _ ?_ (fun hHeld => ?_)
    · exact hHeld
    clear hK Kc
    refine step_read 9 70 rfl rfl (by kernel_rfl) (by kernel_rfl) (by kernel_rfl) (fun _ _ _ h => h) (by rfl) (v := ?_) (fun w hSw => ?_) (by assumption) ?_; rotate_left; (focus ((try dsimp only at hSw); go_simp; first | done | exact rfl)); simp only [List.set]
    refine step_read 10 71 rfl rfl (by kernel_rfl) (by kernel_rfl) (by kernel_rfl) (fun _ _ _ h => h) (by rfl) (v := ?_) (fun w hSw => ?_) (by assumption) ?_; rotate_left; (focus ((try dsimp only at hSw); go_simp; first | done | exact rfl)); simp only [List.set]
    refine step_read 11 72 rfl rfl (by kernel_rfl) (by kernel_rfl) (by kernel_rfl) (fun _ _ _ h => h) (by rfl) (v := ?_) (fun w hSw => ?_) (by assumption) ?_; rotate_left; (focus ((try dsimp only at hSw); go_simp; first | done | exact rfl)); simp only [List.set]
    refine step_read 12 73 rfl rfl (by kernel_rfl) (by kernel_rfl) (by kernel_rfl) (fun _ _ _ h => h) (by rfl) (v := ?_) (fun w hSw => ?_) (by assumption) ?_; rotate_left; (focus ((try dsimp only at hSw); go_simp; first | done | exact rfl)); simp only [List.set]
    refine step_read 13 74 rfl rfl (by kernel_rfl) (by kernel_rfl) (by kernel_rfl) (fun _ _ _ h => h) (by rfl) (v := ?_) (fun w hSw => ?_) (by assumption) ?_; rotate_left; (focus ((try dsimp only at hSw); go_simp; first | done | exact rfl)); simp only [List.set]
    refine step_read 14 75 rfl rfl (by kernel_rfl) (by kernel_rfl) (by kernel_rfl) (fun _ _ _ h => h) (by rfl) (v := ?_) (fun w hSw => ?_) (by assumption) ?_; rotate_left; (focus ((try dsimp only at hSw); go_simp; first | done | exact rfl)); simp only [List.set]
    refine step_read 15 76 rfl rfl (by kernel_rfl) (by kernel_rfl) (by kernel_rfl) (fun _ _ _ h => h) (by rfl) (v := ?_) (fun w hSw => ?_) (by assumption) ?_; rotate_left; (focus ((try dsimp only at hSw); go_simp; first | done | exact rfl)); simp only [List.set]
    refine step_read 16 77 rfl rfl (by kernel_rfl) (by kernel_rfl) (by kernel_rfl) (fun _ _ _ h => h) (by rfl) (v := ?_) (fun w hSw => ?_) (by assumption) ?_; rotate_left; (focus ((try dsimp only at hSw); go_simp; first | done | exact rfl)); simp only [List.set]
    refine step_read 17 78 rfl rfl (by kernel_rfl) (by kernel_rfl) (by kernel_rfl) (fun _ _ _ h => h) (by rfl) (v := ?_) (fun w hSw => ?_) (by assumption) ?_; rotate_left; (focus ((try dsimp only at hSw); go_simp; first | done | exact rfl)); simp only [List.set]
    refine step_read 18 79 rfl rfl (by kernel_rfl) (by kernel_rfl) (by kernel_rfl) (fun _ _ _ h => h) (by rfl) (v := ?_) (fun w hSw => ?_) (by assumption) ?_; rotate_left; (focus ((try dsimp only at hSw); go_simp; first | done | exact rfl)); simp only [List.set]
    refine step_read 19 80 rfl rfl (by kernel_rfl) (by kernel_rfl) (by kernel_rfl) (fun _ _ _ h => h) (by rfl) (v := ?_) (fun w hSw => ?_) (by assumption) ?_; rotate_left; (focus ((try dsimp only at hSw); go_simp; first | done | exact rfl)); simp only [List.set]
    refine step_read 20 81 rfl rfl (by kernel_rfl) (by kernel_rfl) (by kernel_rfl) (fun _ _ _ h => h) (by rfl) (v := ?_) (fun w hSw => ?_) (by assumption) ?_; rotate_left; (focus ((try dsimp only at hSw); go_simp; first | done | exact rfl)); simp only [List.set]
    refine step_read 21 82 rfl rfl (by kernel_rfl) (by kernel_rfl) (by kernel_rfl) (fun _ _ _ h => h) (by rfl) (v := ?_) (fun w hSw => ?_) (by assumption) ?_; rotate_left; (focus ((try dsimp only at hSw); go_simp; first | done | exact rfl)); simp only [List.set]
    refine step_read 22 83 rfl rfl (by kernel_rfl) (by kernel_rfl) (by kernel_rfl) (fun _ _ _ h => h) (by rfl) (v := ?_) (fun w hSw => ?_) (by assumption) ?_; rotate_left; (focus ((try dsimp only at hSw); go_simp; first | done | exact rfl)); simp only [List.set]
    refine step_read 23 84 rfl rfl (by kernel_rfl) (by kernel_rfl) (by kernel_rfl) (fun _ _ _ h => h) (by rfl) (v := ?_) (fun w hSw => ?_) (by assumption) ?_; rotate_left; (focus ((try dsimp only at hSw); go_simp; first | done | exact rfl)); simp only [List.set]
    refine step_read 24 85 rfl rfl (by kernel_rfl) (by kernel_rfl) (by kernel_rfl) (fun _ _ _ h => h) (by rfl) (v := ?_) (fun w hSw => ?_) (by assumption) ?_; rotate_left; (focus ((try dsimp only at hSw); go_simp; first | done | exact rfl)); simp only [List.set]
    refine step_read 25 86 rfl rfl (by kernel_rfl) (by kernel_rfl) (by kernel_rfl) (fun _ _ _ h => h) (by rfl) (v := ?_) (fun w hSw => ?_) (by assumption) ?_; rotate_left; (focus ((try dsimp only at hSw); go_simp; first | done | exact rfl)); simp only [List.set]
    refine step_read 26 87 rfl rfl (by kernel_rfl) (by kernel_rfl) (by kernel_rfl) (fun _ _ _ h => h) (by rfl) (v := ?_) (fun w hSw => ?_) (by assumption) ?_; rotate_left; (focus ((try dsimp only at hSw); go_simp; first | done | exact rfl)); simp only [List.set]
    refine wpAnyH_done (by kernel_rfl) ?_ _
    have HV := hHeld.2.2.2.2
    clear hHeld u0
    go_wp2_with fail
    go_loopw [11] (fun i wr => ∃ k : Nat, k ≤ m ∧ i = .int .i64 (k : Int) ∧ Hid (Below wb.heap.size wb wr)) (fun i _ => m - (intOf i).toNat)
    case atStart => exact ⟨0, Nat.zero_le _, rfl, HV⟩
    case round =>
      clear HV
      obtain ⟨k, hk, rfl, hR⟩ := hrel
      have x0 := cell_kept hR.out y0
      have x1 := cell_kept hR.out y1
      by_cases hlt : k < m
      · have q0 : (k : Int) < (m : Int) := by omega
        have q1 : (0 : Int) ≤ (k : Int) := by omega
        obtain ⟨z, hz⟩ : ∃ z, wat W k = z := ⟨_, rfl⟩
        have r1 := cell_kept hR.out (HCc.out k _ (wat_get (by have := HML.out; omega)))
        rw [hz] at r1
        have hon := HON.out k hlt
        rw [hz] at hon
        have HZk := Lib.hid hz
        clear hz
        obtain ⟨k1, hk1⟩ : ∃ q, q = k + 1 := ⟨_, rfl⟩
        have hw : IntKind.i64.wrap ((k : Int) + 1) = (k1 : Int) := by rw [hk1]; exact (IntWalk.i64_in _ (by omega)).trans (by omega)
        have HK1 := Lib.hid hk1
        clear hk1
        go_wp2_with fail
        refine wp_region_held_drew (S := (fun w' => w'.cell? ⟨X, 0, none⟩ = some (.int .i64 (K : Int)) ∧ w'.cell? ⟨X, 1, none⟩ = some (.slice ga L.length gc) ∧ w'.cell? ⟨g, k, none⟩ = some (.int .i64 z) ∧ Hid (Below wb.heap.size wb w'))) (by kernel_rfl) ?_ (fun hHeld => ?_)
        · exact ⟨x0, x1, r1, Lib.hid hR.out.drew⟩
        refine step_read 0 94 rfl rfl (by kernel_rfl) (by kernel_rfl) (by kernel_rfl) (fun _ _ _ h => h) (by rfl) (v := ?_) (fun w hSw => ?_) (by assumption) ?_; rotate_left; (focus ((try dsimp only at hSw); go_simp; first | done | exact rfl)); simp only [List.set]
        refine step_read 1 95 rfl rfl (by kernel_rfl) (by kernel_rfl) (by kernel_rfl) (fun _ _ _ h => h) (by rfl) (v := ?_) (fun w hSw => ?_) (by assumption) ?_; rotate_left; (focus ((try dsimp only at hSw); go_simp; first | done | exact rfl)); simp only [List.set]
        refine step_read 2 96 rfl rfl (by kernel_rfl) (by kernel_rfl) (by kernel_rfl) (fun _ _ _ h => h) (by rfl) (v := ?_) (fun w hSw => ?_) (by assumption) ?_; rotate_left; (focus ((try dsimp only at hSw); go_simp; first | done | exact rfl)); simp only [List.set]
        refine step_read 3 97 rfl rfl (by kernel_rfl) (by kernel_rfl) (by kernel_rfl) (fun _ _ _ h => h) (by rfl) (v := ?_) (fun w hSw => ?_) (by assumption) ?_; rotate_left; (focus ((try dsimp only at hSw); go_simp; first | done | exact rfl)); simp only [List.set]
        refine step_read 4 98 rfl rfl (by kernel_rfl) (by kernel_rfl) (by kernel_rfl) (fun _ _ _ h => h) (by rfl) (v := ?_) (fun w hSw => ?_) (by assumption) ?_; rotate_left; (focus ((try dsimp only at hSw); go_simp; first | done | exact rfl)); simp only [List.set]
        refine step_read 5 99 rfl rfl (by kernel_rfl) (by kernel_rfl) (by kernel_rfl) (fun _ _ _ h => h) (by rfl) (v := ?_) (fun w hSw => ?_) (by assumption) ?_; rotate_left; (focus ((try dsimp only at hSw); go_simp; first | done | exact rfl)); simp only [List.set]
        refine step_read 6 100 rfl rfl (by kernel_rfl) (by kernel_rfl) (by kernel_rfl) (fun _ _ _ h => h) (by rfl) (v := ?_) (fun w hSw => ?_) (by assumption) ?_; rotate_left; (focus ((try dsimp only at hSw); go_simp; first | done | exact rfl)); simp only [List.set]
        refine wpAnyH_ready (rs := [7]) (by kernel_rfl) (by simp) ?_
        refine AllReadyH.cons rfl (fun Kc hK => ?_) (AllReadyH.nil)
        go_simp
        go_at_call 40
        have hh := hHeld.2.2.2
        refine (ionw_any (K : Int) _ _ L.length _ L (s : Int) (o : Int) z _ rfl (HRb.out.below hh.out hsb) (Nat.le_trans hsb hh.out.size)).mono ?_
        rintro e wq ⟨he, hbq⟩
        rw [hon] at he
        subst he
        have c1 := cell_kept hbq hHeld.1
        have c2 := cell_kept hbq hHeld.2.1
        have c3 := cell_kept hbq hHeld.2.2.1
        have c5 : Hid (Below wb.heap.size wb wq) := hh.out.trans (hbq.mono hh.out.size)
        clear hHeld hh hbq
        refine hK.out _ _ ?_ (fun hHeld => ?_)
        · exact ⟨c1, c2, c3, c5⟩
        clear hK Kc
        refine step_read 8 102 rfl rfl (by kernel_rfl) (by kernel_rfl) (by kernel_rfl) (fun _ _ _ h => h) (by rfl) (v := ?_) (fun w hSw => ?_) (by assumption) ?_; rotate_left; (focus ((try dsimp only at hSw); go_simp; first | done | exact rfl)); simp only [List.set]
        refine wpAnyH_done (by kernel_rfl) ?_ _
        clear c1 c2 c3 c5
        obtain ⟨x0, x1, r1, hR⟩ := hHeld
        have hk1 := HK1.out
        by_cases hl1 : k1 < m
        · have q2 : (k1 : Int) < (m : Int) := by omega
          have q3 : decide ((k1 : Int) < (m : Int)) = true := decide_eq_true q2
          have q4 : (0 : Int) ≤ (k1 : Int) := by omega
          obtain ⟨z1, hz1⟩ : ∃ z1, wat W k1 = z1 := ⟨_, rfl⟩
          have hhp := HHP.out k (by omega)
          rw [← hk1, HZk.out, hz1] at hhp
          have r2 := cell_kept hR.out (HCc.out k1 _ (wat_get (by have := HML.out; omega)))
          rw [hz1] at r2
          clear hz1 hk1
          go_wp2_with fail
          refine wp_region_held_drew (S := (fun w' => w'.cell? ⟨X, 0, none⟩ = some (.int .i64 (K : Int)) ∧ w'.cell? ⟨X, 1, none⟩ = some (.slice ga L.length gc) ∧ w'.cell? ⟨g, k, none⟩ = some (.int .i64 z) ∧ w'.cell? ⟨g, k1, none⟩ = some (.int .i64 z1) ∧ Hid (Below wb.heap.size wb w'))) (by kernel_rfl) ?_ (fun hHeld => ?_)
          · exact ⟨x0, x1, r1, r2, Lib.hid hR.out.drew⟩
          refine step_read 0 103 rfl rfl (by kernel_rfl) (by kernel_rfl) (by kernel_rfl) (fun _ _ _ h => h) (by rfl) (v := ?_) (fun w hSw => ?_) (by assumption) ?_; rotate_left; (focus ((try dsimp only at hSw); go_simp; first | done | exact rfl)); simp only [List.set]
          refine step_read 1 104 rfl rfl (by kernel_rfl) (by kernel_rfl) (by kernel_rfl) (fun _ _ _ h => h) (by rfl) (v := ?_) (fun w hSw => ?_) (by assumption) ?_; rotate_left; (focus ((try dsimp only at hSw); go_simp; first | done | exact rfl)); simp only [List.set]
          refine step_read 2 105 rfl rfl (by kernel_rfl) (by kernel_rfl) (by kernel_rfl) (fun _ _ _ h => h) (by rfl) (v := ?_) (fun w hSw => ?_) (by assumption) ?_; rotate_left; (focus ((try dsimp only at hSw); go_simp; first | done | exact rfl)); simp only [List.set]
          refine step_read 3 106 rfl rfl (by kernel_rfl) (by kernel_rfl) (by kernel_rfl) (fun _ _ _ h => h) (by rfl) (v := ?_) (fun w hSw => ?_) (by assumption) ?_; rotate_left; (focus ((try dsimp only at hSw); go_simp; first | done | exact rfl)); simp only [List.set]
          refine step_read 4 107 rfl rfl (by kernel_rfl) (by kernel_rfl) (by kernel_rfl) (fun _ _ _ h => h) (by rfl) (v := ?_) (fun w hSw => ?_) (by assumption) ?_; rotate_left; (focus ((try dsimp only at hSw); go_simp; first | done | exact rfl)); simp only [List.set]
          refine step_read 5 108 rfl rfl (by kernel_rfl) (by kernel_rfl) (by kernel_rfl) (fun _ _ _ h => h) (by rfl) (v := ?_) (fun w hSw => ?_) (by assumption) ?_; rotate_left; (focus ((try dsimp only at hSw); go_simp; first | done | exact rfl)); simp only [List.set]
          refine step_read 6 109 rfl rfl (by kernel_rfl) (by kernel_rfl) (by kernel_rfl) (fun _ _ _ h => h) (by rfl) (v := ?_) (fun w hSw => ?_) (by assumption) ?_; rotate_left; (focus ((try dsimp only at hSw); go_simp; first | done | exact rfl)); simp only [List.set]
          refine step_read 7 110 rfl rfl (by kernel_rfl) (by kernel_rfl) (by kernel_rfl) (fun _ _ _ h => h) (by rfl) (v := ?_) (fun w hSw => ?_) (by assumption) ?_; rotate_left; (focus ((try dsimp only at hSw); go_simp; first | done | exact rfl)); simp only [List.set]
          refine step_read 8 111 rfl rfl (by kernel_rfl) (by kernel_rfl) (by kernel_rfl) (fun _ _ _ h => h) (by rfl) (v := ?_) (fun w hSw => ?_) (by assumption) ?_; rotate_left; (focus ((try dsimp only at hSw); go_simp; first | done | exact rfl)); simp only [List.set]
          refine step_read 9 112 rfl rfl (by kernel_rfl) (by kernel_rfl) (by kernel_rfl) (fun _ _ _ h => h) (by rfl) (v := ?_) (fun w hSw => ?_) (by assumption) ?_; rotate_left; (focus ((try dsimp only at hSw); go_simp; first | done | exact rfl)); simp only [List.set]
          refine step_read 10 113 rfl rfl (by kernel_rfl) (by kernel_rfl) (by kernel_rfl) (fun _ _ _ h => h) (by rfl) (v := ?_) (fun w hSw => ?_) (by assumption) ?_; rotate_left; (focus ((try dsimp only at hSw); go_simp; first | done | exact rfl)); simp only [List.set]
          refine step_read 11 114 rfl rfl (by kernel_rfl) (by kernel_rfl) (by kernel_rfl) (fun _ _ _ h => h) (by rfl) (v := ?_) (fun w hSw => ?_) (by assumption) ?_; rotate_left; (focus ((try dsimp only at hSw); go_simp; first | done | exact rfl)); simp only [List.set]
          refine step_read 13 116 rfl rfl (by kernel_rfl) (by kernel_rfl) (by kernel_rfl) (fun _ _ _ h => h) (by rfl) (v := ?_) (fun w hSw => ?_) (by assumption) ?_; rotate_left; (focus ((try dsimp only at hSw); go_simp; first | done | exact rfl)); simp only [List.set]
          refine step_read 14 117 rfl rfl (by kernel_rfl) (by kernel_rfl) (by kernel_rfl) (fun _ _ _ h => h) (by rfl) (v := ?_) (fun w hSw => ?_) (by assumption) ?_; rotate_left; (focus ((try dsimp only at hSw); go_simp; first | done | exact rfl)); simp only [List.set]
          refine step_read 15 118 rfl rfl (by kernel_rfl) (by kernel_rfl) (by kernel_rfl) (fun _ _ _ h => h) (by rfl) (v := ?_) (fun w hSw => ?_) (by assumption) ?_; rotate_left; (focus ((try dsimp only at hSw); go_simp; first | done | exact rfl)); simp only [List.set]
          refine step_read 16 119 rfl rfl (by kernel_rfl) (by kernel_rfl) (by kernel_rfl) (fun _ _ _ h => h) (by rfl) (v := ?_) (fun w hSw => ?_) (by assumption) ?_; rotate_left; (focus ((try dsimp only at hSw); go_simp; first | done | exact rfl)); simp only [List.set]
          refine step_read 17 120 rfl rfl (by kernel_rfl) (by kernel_rfl) (by kernel_rfl) (fun _ _ _ h => h) (by rfl) (v := ?_) (fun w hSw => ?_) (by assumption) ?_; rotate_left; (focus ((try dsimp only at hSw); go_simp; first | done | exact rfl)); simp only [List.set]
          refine wpAnyH_ready (rs := [12]) (by kernel_rfl) (by simp) ?_
          refine AllReadyH.cons rfl (fun Kc hK => ?_) (AllReadyH.nil)
          go_simp
          go_at_call 42
          have hh := hHeld.2.2.2.2
          refine (ihop_any (K : Int) _ _ L.length _ L z (o : Int) _ rfl (HRb.out.below hh.out hsb) (Nat.le_trans hsb hh.out.size)).mono ?_
          rintro e wq ⟨hv2, rfl, hr2, hbq⟩
          obtain ⟨ah, ch, e1⟩ := hr2.slice
          subst e1
          have HR9 := Lib.hid hr2
          have c1 := cell_kept hbq hHeld.1
          have c2 := cell_kept hbq hHeld.2.1
          have c3 := cell_kept hbq hHeld.2.2.1
          have c4 := cell_kept hbq hHeld.2.2.2.1
          have c5 : Hid (Below wb.heap.size wb wq) := hh.out.trans (hbq.mono hh.out.size)
          clear hHeld hh hbq hr2
          refine hK.out _ _ ?_ (fun hHeld => ?_)
          · exact ⟨c1, c2, c3, c4, c5⟩
          clear hK Kc
          refine wpAnyH_ready (rs := [18]) (by kernel_rfl) (by simp) ?_
          refine AllReadyH.cons rfl (fun Kc hK => ?_) (AllReadyH.nil)
          clear c1 c2 c3 c4 c5
          go_simp
          go_at_call 41
          refine (within_any (hopsL (K : Int) L z (o : Int)) _ _ _ _ z1 _ HR9.out).mono ?_
          rintro e wq2 ⟨he, hw2⟩
          subst hw2
          rw [hhp] at he
          subst he
          refine hK.out _ _ ?_ (fun hHeld => ?_)
          · exact hHeld
          clear hK Kc
          refine step_read 19 122 rfl rfl (by kernel_rfl) (by kernel_rfl) (by kernel_rfl) (fun _ _ _ h => h) (by rfl) (v := ?_) (fun w hSw => ?_) (by assumption) ?_; rotate_left; (focus ((try dsimp only at hSw); go_simp; first | done | exact rfl)); simp only [List.set]
          refine step_read 20 123 rfl rfl (by kernel_rfl) (by kernel_rfl) (by kernel_rfl) (fun _ _ _ h => h) (by rfl) (v := ?_) (fun w hSw => ?_) (by assumption) ?_; rotate_left; (focus ((try dsimp only at hSw); go_simp; first | done | exact rfl)); simp only [List.set]
          refine wpAnyH_done (by kernel_rfl) ?_ _
          have HV := hHeld.2.2.2.2
          clear hHeld
          go_wp2_with fail
          have hk1 := HK1.out
          go_roundw
          case rel => exact ⟨k1, by omega, by go_num, HV⟩
          case measure => simp [intOf]; omega
        · have q2 : ¬ ((k1 : Int) < (m : Int)) := by omega
          have q3 : decide ((k1 : Int) < (m : Int)) = false := decide_eq_false q2
          clear hk1
          go_wp2_with fail
          refine wp_region_held_drew (S := (fun w' => w'.cell? ⟨g, k, none⟩ = some (.int .i64 z) ∧ Hid (Below wb.heap.size wb w'))) (by kernel_rfl) ?_ (fun hHeld => ?_)
          · exact ⟨r1, Lib.hid hR.out.drew⟩
          refine step_read 0 103 rfl rfl (by kernel_rfl) (by kernel_rfl) (by kernel_rfl) (fun _ _ _ h => h) (by rfl) (v := ?_) (fun w hSw => ?_) (by assumption) ?_; rotate_left; (focus ((try dsimp only at hSw); go_simp; first | done | exact rfl)); simp only [List.set]
          refine step_read 1 104 rfl rfl (by kernel_rfl) (by kernel_rfl) (by kernel_rfl) (fun _ _ _ h => h) (by rfl) (v := ?_) (fun w hSw => ?_) (by assumption) ?_; rotate_left; (focus ((try dsimp only at hSw); go_simp; first | done | exact rfl)); simp only [List.set]
          refine step_read 2 105 rfl rfl (by kernel_rfl) (by kernel_rfl) (by kernel_rfl) (fun _ _ _ h => h) (by rfl) (v := ?_) (fun w hSw => ?_) (by assumption) ?_; rotate_left; (focus ((try dsimp only at hSw); go_simp; first | done | exact rfl)); simp only [List.set]
          refine step_read 3 106 rfl rfl (by kernel_rfl) (by kernel_rfl) (by kernel_rfl) (fun _ _ _ h => h) (by rfl) (v := ?_) (fun w hSw => ?_) (by assumption) ?_; rotate_left; (focus ((try dsimp only at hSw); go_simp; first | done | exact rfl)); simp only [List.set]
          refine step_read 4 107 rfl rfl (by kernel_rfl) (by kernel_rfl) (by kernel_rfl) (fun _ _ _ h => h) (by rfl) (v := ?_) (fun w hSw => ?_) (by assumption) ?_; rotate_left; (focus ((try dsimp only at hSw); go_simp; first | done | exact rfl)); simp only [List.set]
          refine step_read 5 108 rfl rfl (by kernel_rfl) (by kernel_rfl) (by kernel_rfl) (fun _ _ _ h => h) (by rfl) (v := ?_) (fun w hSw => ?_) (by assumption) ?_; rotate_left; (focus ((try dsimp only at hSw); go_simp; first | done | exact rfl)); simp only [List.set]
          refine step_skip 6 109 rfl rfl (by kernel_rfl) (by kernel_rfl) (by kernel_rfl) (fun _ _ _ h => h) (by rfl) (by assumption) ?_; simp only [List.set]
          refine step_skip 7 110 rfl rfl (by kernel_rfl) (by kernel_rfl) (by kernel_rfl) (fun _ _ _ h => h) (by rfl) (by assumption) ?_; simp only [List.set]
          refine step_skip 8 111 rfl rfl (by kernel_rfl) (by kernel_rfl) (by kernel_rfl) (fun _ _ _ h => h) (by rfl) (by assumption) ?_; simp only [List.set]
          refine step_skip 9 112 rfl rfl (by kernel_rfl) (by kernel_rfl) (by kernel_rfl) (fun _ _ _ h => h) (by rfl) (by assumption) ?_; simp only [List.set]
          refine step_skip 10 113 rfl rfl (by kernel_rfl) (by kernel_rfl) (by kernel_rfl) (fun _ _ _ h => h) (by rfl) (by assumption) ?_; simp only [List.set]
          refine step_skip 11 114 rfl rfl (by kernel_rfl) (by kernel_rfl) (by kernel_rfl) (fun _ _ _ h => h) (by rfl) (by assumption) ?_; simp only [List.set]
          refine step_skip 12 115 rfl rfl (by kernel_rfl) (by kernel_rfl) (by kernel_rfl) (fun _ _ _ h => h) (by rfl) (by assumption) ?_; simp only [List.set]
          refine step_skip 13 116 rfl rfl (by kernel_rfl) (by kernel_rfl) (by kernel_rfl) (fun _ _ _ h => h) (by rfl) (by assumption) ?_; simp only [List.set]
          refine step_skip 14 117 rfl rfl (by kernel_rfl) (by kernel_rfl) (by kernel_rfl) (fun _ _ _ h => h) (by rfl) (by assumption) ?_; simp only [List.set]
          refine step_skip 15 118 rfl rfl (by kernel_rfl) (by kernel_rfl) (by kernel_rfl) (fun _ _ _ h => h) (by rfl) (by assumption) ?_; simp only [List.set]
          refine step_skip 16 119 rfl rfl (by kernel_rfl) (by kernel_rfl) (by kernel_rfl) (fun _ _ _ h => h) (by rfl) (by assumption) ?_; simp only [List.set]
          refine step_skip 17 120 rfl rfl (by kernel_rfl) (by kernel_rfl) (by kernel_rfl) (fun _ _ _ h => h) (by rfl) (by assumption) ?_; simp only [List.set]
          refine step_skip 18 121 rfl rfl (by kernel_rfl) (by kernel_rfl) (by kernel_rfl) (fun _ _ _ h => h) (by rfl) (by assumption) ?_; simp only [List.set]
          refine step_skip 19 122 rfl rfl (by kernel_rfl) (by kernel_rfl) (by kernel_rfl) (fun _ _ _ h => h) (by rfl) (by assumption) ?_; simp only [List.set]
          refine step_read 20 123 rfl rfl (by kernel_rfl) (by kernel_rfl) (by kernel_rfl) (fun _ _ _ h => h) (by rfl) (v := ?_) (fun w hSw => ?_) (by assumption) ?_; rotate_left; (focus ((try dsimp only at hSw); go_simp; first | done | exact rfl)); simp only [List.set]
          refine wpAnyH_done (by kernel_rfl) ?_ _
          have HV := hHeld.2
          clear hHeld
          go_wp2_with fail
          have hk1 := HK1.out
          go_roundw
          case rel => exact ⟨k1, by omega, by go_num, HV⟩
          case measure => simp [intOf]; omega
      · have hge : ¬ ((k : Int) < (m : Int)) := by omega
        go_wp2_with fail
        go_ret
        exact ⟨rfl, HBb.out.trans (hR.out.mono HBb.out.size)⟩
  · have hcp := scn_none hno hsc
    have hcd : decide (c > 0) = false := decide_eq_false hcp
    have hm6 : 0 ≤ 1000000 := by omega
    clear hno hsc
    go_at_call 33
    refine ((hCw _ _ _ _ _ rfl HR2.out hs12).1).mono ?_
    rintro e w3 ⟨rv1, rfl, hz1, hb3⟩
    obtain ⟨a1, c1, e1⟩ := hz1.slice
    subst e1
    have y0 := cell_kept hb3 x0
    have y1 := cell_kept hb3 x1
    have HR3 : Hid (Row 3 w3 w.heap.size w1.heap.size (.slice ga L.length gc) L.length (flat L)) := HR2.out.below hb3 hs12
    have HB3 : Hid (Below w.heap.size w w3) := HB2.out.trans (hb3.mono HB2.out.size)
    have hs13 : w1.heap.size ≤ w3.heap.size := Nat.le_trans hs12 hb3.size
    have HZ1 := Lib.hid hz1
    clear HR2 HB2 hb3 hs12 x0 x1 hz1
    go_wp2_with fail
    go_at_call 34
    refine ((hCw _ _ _ _ _ rfl HR3.out hs13).2).mono ?_
    rintro e w4 ⟨rv2, rfl, hz2, hb4⟩
    obtain ⟨a2, c2, e1⟩ := hz2.slice
    subst e1
    have x0 := cell_kept hb4 y0
    have x1 := cell_kept hb4 y1
    have HR4 : Hid (Row 3 w4 w.heap.size w1.heap.size (.slice ga L.length gc) L.length (flat L)) := HR3.out.below hb4 hs13
    have HB4 : Hid (Below w.heap.size w w4) := HB3.out.trans (hb4.mono HB3.out.size)
    have hs14 : w1.heap.size ≤ w4.heap.size := Nat.le_trans hs13 hb4.size
    have HZ1' := Lib.hid (HZ1.out.below hb4 (Nat.le_refl _))
    have HZ2 := Lib.hid hz2
    have HCw := Lib.hid hCw
    clear HR3 HB3 hb4 hs13 y0 y1 hz2 HZ1 hCw
    go_wp2_with fail
    go_at_call 35
    refine (same_row (Z := []) rfl hm6 HZ2.out HZ1'.out).mono ?_
    rintro e w5 ⟨rfl, hb5⟩
    have y0 := cell_kept hb5 x0
    have y1 := cell_kept hb5 x1
    have HR5 : Hid (Row 3 w5 w.heap.size w1.heap.size (.slice ga L.length gc) L.length (flat L)) := HR4.out.below hb5 hs14
    have HB5 : Hid (Below w.heap.size w w5) := HB4.out.trans (hb5.mono HB4.out.size)
    have hs15 : w1.heap.size ≤ w5.heap.size := Nat.le_trans hs14 hb5.size
    have HZ3 := Lib.hid (HZ2.out.below hb5 (Nat.le_refl _))
    have hw45 : w4.heap.size ≤ w5.heap.size := hb5.size
    clear HR4 HB4 hb5 hs14 x0 x1 HZ2 HZ1'
    go_wp2_with fail
    go_at_call 36
    refine (icnt_any _ _ _ _ _ L _ _ w5 rfl HR5.out hs15).mono ?_
    rintro e w6 ⟨rfl, hb6⟩
    rw [HC0.out]
    have x0 := cell_kept hb6 y0
    have x1 := cell_kept hb6 y1
    have HR6 : Hid (Row 3 w6 w.heap.size w1.heap.size (.slice ga L.length gc) L.length (flat L)) := HR5.out.below hb6 hs15
    have HB6 : Hid (Below w.heap.size w w6) := HB5.out.trans (hb6.mono HB5.out.size)
    have hs16 : w1.heap.size ≤ w6.heap.size := Nat.le_trans hs15 hb6.size
    have HZ4 := Lib.hid (HZ3.out.below hb6 hw45)
    have hw46 : w4.heap.size ≤ w6.heap.size := Nat.le_trans hw45 hb6.size
    clear HR5 HB5 hb6 hs15 y0 y1 HZ3
    go_wp2_with fail
    go_at_call 37
    refine (scnt_any _ _ _ _ _ L _ _ w6 rfl HR6.out hs16).mono ?_
    rintro e wb ⟨rfl, hb7⟩
    rw [HC0.out]
    have y0 := cell_kept hb7 x0
    have y1 := cell_kept hb7 x1
    have HRb : Hid (Row 3 wb w.heap.size w1.heap.size (.slice ga L.length gc) L.length (flat L)) := HR6.out.below hb7 hs16
    have HBb : Hid (Below w.heap.size w wb) := HB6.out.trans (hb7.mono HB6.out.size)
    have hsb : w1.heap.size ≤ wb.heap.size := Nat.le_trans hs16 hb7.size
    have HZ5 := Lib.hid (HZ4.out.below hb7 hw46)
    clear HR6 HB6 hb7 hs16 x0 x1 HZ4 HC0
    go_wp2_with fail
    go_ret
    exact ⟨rfl, HBb.out⟩

end Go.Proofs.Ytjenjdhoblcohaa
