/- Draws: a graph and three numbers. -/
import Derived.Test.YtjenjdhoblcohaaDt
namespace Go.Proofs.Ytjenjdhoblcohaa
open Go.RowKit

/-- A graph and three numbers are drawn. -/
def DsPost (w : World) (e : Ending) (w' : World) : Prop := ∃ M gv L x y z, e = .returned (.tuple #[.agg #[.int .i64 M, gv], .int .i64 x, .int .i64 y, .int .i64 z]) ∧ Row 3 w' w.heap.size w'.heap.size gv L.length (flat L) ∧ L.length ≤ 61 ∧ Below w.heap.size w w'
theorem ds_end {w w0 w3 : World} {M x y z : Int} {gv : Value} {L : List Ed} (h0 : w0.heap.size = w.heap.size + 1) (hb0 : Below w.heap.size w w0) (hb : Below w0.heap.size w0 w3) (hr : Row 3 w3 w0.heap.size w3.heap.size gv L.length (flat L)) (hl : L.length ≤ 61) : DsPost w (.returned (.tuple #[.agg #[.int .i64 M, gv], .int .i64 x, .int .i64 y, .int .i64 z])) ((w3.setCell ⟨w.heap.size, 0, none⟩ (.int .i64 M)).setCell ⟨w.heap.size, 1, none⟩ gv) := by
  obtain ⟨M', gv', L', x', e1, h3, h4, h5⟩ := dh_end (x := x) (M := M) h0 hb0 hb hr hl
  cases e1
  exact ⟨M, gv, L', x, y, z, rfl, h3, h4, h5⟩
/-- What is known of the world behind l03Draw, as the cursor goes on. -/
structure DcW (w w0 w1 w2 v : World) (C : Nat) (a : Option Addr) (n cp : Nat) (M : Int) (gv : Value) (L : List Ed) : Prop where
  cur : ∃ i, Cur v C a n cp i
  els : Else C w2 v
  k0 : v.cell? ⟨w1.heap.size, 0, none⟩ = some (.int .i64 M)
  k1 : v.cell? ⟨w1.heap.size, 1, none⟩ = some gv
  r0 : v.cell? ⟨w.heap.size, 0, none⟩ = some (.int .i64 0)
  r1 : v.cell? ⟨w.heap.size, 1, none⟩ = some (.slice none 0 0)
  rf : ∀ o, v.frozen? ⟨w.heap.size, o, none⟩ = false
  row : Row 3 v (C + 1) w1.heap.size gv L.length (flat L)
  bel : Below w0.heap.size w0 v
  n1 : w.heap.size ≠ C
  n2 : w1.heap.size ≠ C
  c0 : w0.heap.size ≤ C
  s0 : w0.heap.size = w.heap.size + 1
  s1 : w0.heap.size ≤ w1.heap.size
  sv : w1.heap.size < v.heap.size
theorem DcW.on {w w0 w1 w2 v v' : World} {C : Nat} {a : Option Addr} {n cp j : Nat} {M : Int} {gv : Value} {L : List Ed} (h : DcW w w0 w1 w2 v C a n cp M gv L) (hc : Cur v' C a n cp j) (he : Else C v v') : DcW w w0 w1 w2 v' C a n cp M gv L := by
  have s0 := h.s0; have s1 := h.s1; have sv := h.sv; have c0 := h.c0; have sz := he.2.2.2.1; have n1 := h.n1; have n2 := h.n2
  refine ⟨⟨j, hc⟩, h.els.trans he, ?_, ?_, ?_, ?_, fun o => ?_, h.row.else_ he (by omega) (.inr (by omega)), h.bel.trans (he.below (by omega) (by omega)), n1, n2, c0, s0, s1, by omega⟩
  · rw [he.cell (by omega) n2]; exact h.k0
  · rw [he.cell (by omega) n2]; exact h.k1
  · rw [he.cell (by omega) n1]; exact h.r0
  · rw [he.cell (by omega) n1]; exact h.r1
  · rw [World.frozen?_of_block (w := v) (a := ⟨w.heap.size, o, none⟩) (he.2.2.2.2 w.heap.size (by omega) n1)]; exact h.rf o
theorem DcW.drew {w w0 w1 w2 v : World} {C : Nat} {a : Option Addr} {n cp : Nat} {M : Int} {gv : Value} {L : List Ed} (h : DcW w w0 w1 w2 v C a n cp M gv L) : DcW w w0 w1 w2 v.drew C a n cp M gv L := by
  obtain ⟨i, hc⟩ := h.cur
  exact h.on (hc.below (Below.refl _ _).drew) (Else.of_below (Below.refl _ _).drew)
theorem DcW.ne {w w0 w1 w2 v : World} {C : Nat} {a : Option Addr} {n cp : Nat} {M : Int} {gv : Value} {L : List Ed} (h : DcW w w0 w1 w2 v C a n cp M gv L) : C < v.heap.size := by obtain ⟨i, hc⟩ := h.cur; exact hc.lt
theorem DcW.box {w w0 w1 w2 v : World} {C : Nat} {a : Option Addr} {n cp : Nat} {M : Int} {gv : Value} {L : List Ed} (h : DcW w w0 w1 w2 v C a n cp M gv L) (o : Obj) : DcW w w0 w1 w2 (v.alloc o) C a n cp M gv L := by
  obtain ⟨i, hc⟩ := h.cur
  have hb : Below v.heap.size v (v.alloc o) := (Below.refl _ _).alloc (Nat.le_refl _) _
  exact h.on (hc.below hb) (Else.of_below hb)
set_option maxRecDepth 100000 in
set_option maxHeartbeats 4000000 in
theorem dsh_any (a : Option Addr) (n cp : Nat) (w : World) (hb : BytesAt w a n) (hold : ∀ p : Addr, a = some p → p.block < w.heap.size) : Calls Try.prog 43 #[.slice a n cp] w (DsPost w) := by
  have HO := Lib.hid hold
  have HB := Lib.hid hb
  clear hb hold
  go_enter Try.func43, Try.ntmps43
  go_wp2_with fail
  obtain ⟨w0, hw0⟩ : ∃ q, q = (w.alloc (.cells #[.int .i64 0, .slice none 0 0] 29)) := ⟨_, rfl⟩
  have HR0 : Hid (w0.heap.size = w.heap.size + 1 ∧ Below w.heap.size w w0 ∧ BytesAt w0 a n ∧ w0.cell? ⟨w.heap.size, 0, none⟩ = some (.int .i64 0) ∧ w0.cell? ⟨w.heap.size, 1, none⟩ = some (.slice none 0 0) ∧ ∀ o, w0.frozen? ⟨w.heap.size, o, none⟩ = false) :=
    ⟨by rw [hw0]; simp, by rw [hw0]; exact (Below.refl _ _).alloc (Nat.le_refl _) _, by rw [hw0]; exact BytesAt.alloc HB.out _, by rw [hw0]; show _ = _; simp, by rw [hw0]; show _ = _; simp, fun o => by rw [hw0]; show _ = _; simp⟩
  rw [← hw0]
  clear hw0 HB
  go_at_call 79
  refine (draw_any a n cp w0 HR0.out.2.2.1 (fun p e => by have := HO.out p e; have := HR0.out.1; omega)).mono ?_
  rintro e w1 ⟨C, M, gv, L, rfl, ⟨i, hc1⟩, hC0, hr, hl, hb1⟩
  obtain ⟨ga, gc, hgv⟩ := hr.slice
  subst hgv
  have hs0 := HR0.out.1
  have hs1 := hb1.size
  have hC1 := hc1.lt
  obtain ⟨w2, hw2⟩ : ∃ q, q = w1.alloc (.cells #[.int .i64 M, .slice ga L.length gc] 29) := ⟨_, rfl⟩
  have hb2 : Below w1.heap.size w1 w2 := by rw [hw2]; exact (Below.refl _ _).alloc (Nat.le_refl _) _
  have hs2 : w2.heap.size = w1.heap.size + 1 := by rw [hw2]; simp
  have D2 : Hid (DcW w w0 w1 w2 w2 C a n cp M (.slice ga L.length gc) L) := ⟨⟨i, hc1.below hb2⟩, Else.refl' _ _, by rw [hw2]; simp, by rw [hw2]; simp,
    by rw [hb2.cell (p := ⟨w.heap.size, 0, none⟩) (by show w.heap.size < _; omega), hb1.cell (p := ⟨w.heap.size, 0, none⟩) (by show w.heap.size < _; omega)]; exact HR0.out.2.2.2.1,
    by rw [hb2.cell (p := ⟨w.heap.size, 1, none⟩) (by show w.heap.size < _; omega), hb1.cell (p := ⟨w.heap.size, 1, none⟩) (by show w.heap.size < _; omega)]; exact HR0.out.2.2.2.2.1,
    fun o => by rw [hb2.frozen (p := ⟨w.heap.size, o, none⟩) (by show w.heap.size < _; omega), hb1.frozen (p := ⟨w.heap.size, o, none⟩) (by show w.heap.size < _; omega)]; exact HR0.out.2.2.2.2.2 o,
    hr.below hb2 (Nat.le_refl _), hb1.trans (hb2.mono hs1), by omega, by omega, by omega, hs0, hs1, by omega⟩
  clear hr hb1 hc1 hb2 HO
  go_wp2_with fail
  rw [← hw2]
  clear hw2
  have DV0 := Lib.hid D2.out.drew
  refine wp_region_held_drew (S := (fun w' => w'.cell? ⟨w1.heap.size, 0, none⟩ = some (.int .i64 M) ∧ w'.cell? ⟨w1.heap.size, 1, none⟩ = some (.slice ga L.length gc))) (by kernel_rfl) ?_ (fun hHeld => ?_)
  · exact ⟨DV0.out.k0, DV0.out.k1⟩
  refine step_read 0 13 rfl rfl (by kernel_rfl) (by kernel_rfl) (by kernel_rfl) (fun _ _ _ h => h) (by rfl) (v := ?_) (fun w hSw => ?_) (by assumption) ?_; rotate_left; (focus ((try dsimp only at hSw); go_simp; first | done | exact rfl)); simp only [List.set]
  refine step_read 1 14 rfl rfl (by kernel_rfl) (by kernel_rfl) (by kernel_rfl) (fun _ _ _ h => h) (by rfl) (v := ?_) (fun w hSw => ?_) (by assumption) ?_; rotate_left; (focus ((try dsimp only at hSw); go_simp; first | done | exact rfl)); simp only [List.set]
  refine step_read 2 15 rfl rfl (by kernel_rfl) (by kernel_rfl) (by kernel_rfl) (fun _ _ _ h => h) (by rfl) (v := ?_) (fun w hSw => ?_) (by assumption) ?_; rotate_left; (focus ((try dsimp only at hSw); go_simp; first | done | exact rfl)); simp only [List.set]
  refine step_read 4 17 rfl rfl (by kernel_rfl) (by kernel_rfl) (by kernel_rfl) (fun _ _ _ h => h) (by rfl) (v := ?_) (fun w hSw => ?_) (by assumption) ?_; rotate_left; (focus ((try dsimp only at hSw); go_simp; first | done | exact rfl)); simp only [List.set]
  refine step_read 5 18 rfl rfl (by kernel_rfl) (by kernel_rfl) (by kernel_rfl) (fun _ _ _ h => h) (by rfl) (v := ?_) (fun w hSw => ?_) (by assumption) ?_; rotate_left; (focus ((try dsimp only at hSw); go_simp; first | done | exact rfl)); simp only [List.set]
  refine step_read 7 20 rfl rfl (by kernel_rfl) (by kernel_rfl) (by kernel_rfl) (fun _ _ _ h => h) (by rfl) (v := ?_) (fun w hSw => ?_) (by assumption) ?_; rotate_left; (focus ((try dsimp only at hSw); go_simp; first | done | exact rfl)); simp only [List.set]
  refine step_read 8 21 rfl rfl (by kernel_rfl) (by kernel_rfl) (by kernel_rfl) (fun _ _ _ h => h) (by rfl) (v := ?_) (fun w hSw => ?_) (by assumption) ?_; rotate_left; (focus ((try dsimp only at hSw); go_simp; first | done | exact rfl)); simp only [List.set]
  refine wpAnyH_ready (rs := [3]) (by kernel_rfl) (by simp) ?_
  refine AllReadyH.cons rfl (fun Kc hK => ?_) (AllReadyH.nil)
  go_simp
  go_at_call 80
  obtain ⟨jx, hcur⟩ := DV0.out.cur
  refine (dnode_any C a n cp jx M (.slice ga L.length gc) ⟨_, _, _, rfl⟩ _ hcur).mono ?_
  rintro e vx ⟨⟨x, rfl⟩, ⟨jx2, hc3⟩, he3⟩
  have DV1 := Lib.hid (DV0.out.on hc3 he3)
  clear hc3 he3 hcur hHeld
  refine hK.out _ _ ?_ (fun hHeld => ?_)
  · exact ⟨DV1.out.k0, DV1.out.k1⟩
  clear hK Kc
  refine wpAnyH_ready (rs := [6]) (by kernel_rfl) (by simp) ?_
  refine AllReadyH.cons rfl (fun Kc hK => ?_) (AllReadyH.nil)
  go_simp
  go_at_call 80
  obtain ⟨jy, hcur⟩ := DV1.out.cur
  refine (dnode_any C a n cp jy M (.slice ga L.length gc) ⟨_, _, _, rfl⟩ _ hcur).mono ?_
  rintro e vy ⟨⟨y, rfl⟩, ⟨jy2, hc3⟩, he3⟩
  have DV2 := Lib.hid (DV1.out.on hc3 he3)
  clear hc3 he3 hcur hHeld
  refine hK.out _ _ ?_ (fun hHeld => ?_)
  · exact ⟨DV2.out.k0, DV2.out.k1⟩
  clear hK Kc
  refine wpAnyH_ready (rs := [9]) (by kernel_rfl) (by simp) ?_
  refine AllReadyH.cons rfl (fun Kc hK => ?_) (AllReadyH.nil)
  go_simp
  go_at_call 82
  obtain ⟨ju, hcur⟩ := DV2.out.cur
  refine (belw_any C a n cp ju 1000 _ hcur).mono ?_
  rintro e vu ⟨⟨u, rfl, hu0, hu1, -⟩, ⟨ju2, hc3⟩, he3⟩
  have DV3 := Lib.hid (DV2.out.on hc3 he3)
  have hu2 := hu1 (by omega)
  have hw : IntKind.i64.wrap (1 + u) = 1 + u := IntWalk.i64_in _ (by omega)
  clear hc3 he3 hcur hHeld hu1
  refine hK.out _ _ ?_ (fun hHeld => ?_)
  · exact ⟨DV3.out.k0, DV3.out.k1⟩
  clear hK Kc
  refine step_read 10 23 rfl rfl (by kernel_rfl) (by kernel_rfl) (by kernel_rfl) (fun _ _ _ h => h) (by rfl) (v := ?_) (fun w hSw => ?_) (by assumption) ?_; rotate_left; (focus ((try dsimp only at hSw); go_simp; first | done | exact rfl)); simp only [List.set]
  refine wpAnyH_ready (rs := [11]) (by kernel_rfl) (by simp) ?_
  refine AllReadyH.cons rfl (fun Kc hK => ?_) (AllReadyH.nil)
  clear hHeld
  go_simp
  have DV4 : Hid (DcW w w0 w1 w2 (vu.alloc (.cells #[.int .i64 1, .int .i64 2, .int .i64 7, .int .i64 (1 + u), .int .i64 100000, .int .i64 100001, .int .i64 0] 3)) C a n cp M (.slice ga L.length gc) L) := Lib.hid (DV3.out.box _)
  refine hK.out _ _ ?_ (fun hHeld => ?_)
  · exact ⟨DV4.out.k0, DV4.out.k1⟩
  clear hK Kc
  refine wpAnyH_ready (rs := [12]) (by kernel_rfl) (by simp) ?_
  refine AllReadyH.cons rfl (fun Kc hK => ?_) (AllReadyH.nil)
  go_simp
  go_at_call 81
  obtain ⟨jp, hcur⟩ := DV4.out.cur
  refine (pick_any C a n cp jp vu.heap.size 7 7 [1, 2, 7, 1 + u, 100000, 100001, 0] _ hcur (by omega) (by omega) rfl ⟨by simp, fun q z hz => ?_⟩ (Nat.ne_of_gt DV3.out.ne)).mono ?_
  · rcases q with _ | _ | _ | _ | _ | _ | _ | q
    · simp at hz; subst hz; simp
    · simp at hz; subst hz; simp
    · simp at hz; subst hz; simp
    · simp at hz; subst hz; simp
    · simp at hz; subst hz; simp
    · simp at hz; subst hz; simp
    · simp at hz; subst hz; simp
    · simp at hz
  rintro e vz ⟨⟨z, rfl, -⟩, ⟨jp2, hc3⟩, he3⟩
  have DV5 := Lib.hid (DV4.out.on hc3 he3)
  clear hc3 he3 hcur hHeld hw hu0 hu2
  refine hK.out _ _ ?_ (fun hHeld => ?_)
  · exact ⟨DV5.out.k0, DV5.out.k1⟩
  clear hK Kc
  refine wpAnyH_ready (rs := [13]) (by kernel_rfl) (by simp) ?_
  refine AllReadyH.cons rfl (fun Kc hK => ?_) (AllReadyH.nil)
  have q0 := DV5.out.r0
  have q1 := DV5.out.r1
  have f0 := DV5.out.rf 0
  have f1 := DV5.out.rf 1
  clear hHeld
  go_simp
  have dd0 := DV5.out.s0
  have dd1 := DV5.out.s1
  obtain ⟨s0, s1⟩ := res2 (u := .int .i64 M) (v := .slice ga L.length gc) q0 q1
  refine hK.out _ _ ?_ (fun hHeld => ?_)
  · exact ⟨by rw [World.cell?_setCell_other _ _ _ _ (by simp), World.cell?_setCell_other _ _ _ _ (by simp)]; exact DV5.out.k0, by rw [World.cell?_setCell_other _ _ _ _ (by simp), World.cell?_setCell_other _ _ _ _ (by simp)]; exact DV5.out.k1⟩
  clear hK Kc
  refine step_read 14 3 rfl rfl (by kernel_rfl) (by kernel_rfl) (by kernel_rfl) (fun _ _ _ h => h) (by rfl) (v := ?_) (fun w hSw => ?_) (by assumption) ?_; rotate_left; (focus ((try dsimp only at hSw); go_simp; first | done | exact rfl)); simp only [List.set]
  refine step_read 15 4 rfl rfl (by kernel_rfl) (by kernel_rfl) (by kernel_rfl) (fun _ _ _ h => h) (by rfl) (v := ?_) (fun w hSw => ?_) (by assumption) ?_; rotate_left; (focus ((try dsimp only at hSw); go_simp; first | done | exact rfl)); simp only [List.set]
  refine step_read 16 5 rfl rfl (by kernel_rfl) (by kernel_rfl) (by kernel_rfl) (fun _ _ _ h => h) (by rfl) (v := ?_) (fun w hSw => ?_) (by assumption) ?_; rotate_left; (focus ((try dsimp only at hSw); go_simp; first | done | exact rfl)); simp only [List.set]
  refine wpAnyH_done (by kernel_rfl) ?_ _
  clear hHeld
  have HE := Lib.hid (ds_end (x := x) (y := y) (z := z) (M := M) HR0.out.1 HR0.out.2.1 DV5.out.bel (DV5.out.row.wide (by have := DV5.out.c0; omega) (by have := DV5.out.sv; omega)) hl)
  go_wp2
  exact bodyPost_ret (v := .tuple #[.agg #[.int .i64 M, .slice ga L.length gc], .int .i64 x, .int .i64 y, .int .i64 z]) (by simp [results, Try.results43, go_sem, s0, s1]) rfl HE.out

end Go.Proofs.Ytjenjdhoblcohaa
