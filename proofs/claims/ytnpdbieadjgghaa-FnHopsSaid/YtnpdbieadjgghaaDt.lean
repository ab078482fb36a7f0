/- Draws: a graph and a node. -/
import Derived.Test.YtnpdbieadjgghaaDg
import Derived.Test.YtnpdbieadjgghaaDw
namespace Go.Proofs.Ytnpdbieadjgghaa
open Go.RowKit

set_option maxRecDepth 100000 in
set_option maxHeartbeats 2400000 in
theorem belw_any (C : Nat) (a : Option Addr) (n cp i : Nat) (m : Int) (w : World) (h : Cur w C a n cp i) :
    Calls Try.prog 90 #[.pointer (some ⟨C, 0, none⟩), .int .i64 m] w fun e w' => (∃ x : Int, e = .returned (.int .i64 x) ∧ 0 ≤ x ∧ (0 < m → x < m) ∧ (m ≤ 0 → x = 0)) ∧ CurPost w C a n cp w' := by
  have HC := Lib.hid h
  clear h
  by_cases h0 : m ≤ 0
  · go_enter Try.func90, Try.ntmps90
    go_wp2_with fail
    go_ret
    exact ⟨⟨0, rfl, Int.le_refl _, fun h => by omega, fun _ => rfl⟩, ⟨i, HC.out⟩, Else.refl' _ _⟩
  · by_cases h1 : m ≤ 256
    · have hne : (m == 0) = false := by simp; omega
      go_enter Try.func90, Try.ntmps90
      go_wp2_with fail
      go_at_call 118
      refine (byte_any C a n cp i _ HC.out).mono ?_
      rintro e w1 ⟨⟨x, rfl, hx0, hx1⟩, hC1, hE1⟩
      go_wp2_with fail
      go_ret
      exact ⟨⟨x % m, rfl, Int.emod_nonneg _ (by omega), fun _ => Int.emod_lt_of_pos _ (by omega), fun h => by omega⟩, hC1, hE1⟩
    · have hne : (m == 0) = false := by simp; omega
      go_enter Try.func90, Try.ntmps90
      go_wp2_with fail
      go_at_call 118
      refine (byte_any C a n cp i _ HC.out).mono ?_
      rintro e w1 ⟨⟨x, rfl, hx0, hx1⟩, ⟨i1, hC1⟩, hE1⟩
      go_wp2_with fail
      go_at_call 118
      refine (byte_any C a n cp i1 _ hC1).mono ?_
      rintro e w2 ⟨⟨y, rfl, hy0, hy1⟩, ⟨i2, hC2⟩, hE2⟩
      go_wp2_with fail
      go_at_call 118
      refine (byte_any C a n cp i2 _ hC2).mono ?_
      rintro e w3 ⟨⟨z, rfl, hz0, hz1⟩, hC3, hE3⟩
      go_wp2_with fail
      go_ret
      exact ⟨⟨_, rfl, Int.emod_nonneg _ (by omega), fun _ => Int.emod_lt_of_pos _ (by omega), fun h => by omega⟩, hC3, (hE1.trans hE2).trans hE3⟩

set_option maxRecDepth 100000 in
set_option maxHeartbeats 4000000 in
/-- A node is drawn, or a number beside them. -/
theorem dnode_any (C : Nat) (a : Option Addr) (n cp i : Nat) (M : Int) (gv : Value) (hgv : ∃ x y z, gv = .slice x y z) (w : World) (h : Cur w C a n cp i) :
    Calls Try.prog 88 #[.pointer (some ⟨C, 0, none⟩), .agg #[.int .i64 M, gv]] w fun e w' => (∃ x : Int, e = .returned (.int .i64 x)) ∧ CurPost w C a n cp w' := by
  obtain ⟨gx, gy, gz, rfl⟩ := hgv
  have hCl := h.lt
  have b1 : Below w.heap.size w (w.alloc (.cells #[.int .i64 M, .slice gx gy gz] 29)) := (Below.refl _ _).alloc (Nat.le_refl _) _
  have H1 := Lib.hid (h.below b1)
  have E1 : Hid (Else C w (w.alloc (.cells #[.int .i64 M, .slice gx gy gz] 29))) := Else.of_below b1
  have hne : w.heap.size ≠ C := by omega
  have hsz : (w.alloc (.cells #[.int .i64 M, .slice gx gy gz] 29)).heap.size = w.heap.size + 1 := by simp
  have y0 : (w.alloc (.cells #[.int .i64 M, .slice gx gy gz] 29)).cell? ⟨w.heap.size, 0, none⟩ = some (.int .i64 M) := by simp
  have hPick : Hid (∀ (v : World) (j : Nat), Cur v C a n cp j → C < v.heap.size → Calls Try.prog 89 #[.pointer (some ⟨C, 0, none⟩), .slice (some ⟨v.heap.size, 0, none⟩) 3 3] (v.alloc (.cells #[.int .i64 (-1), .int .i64 M, .int .i64 0] 3)) fun e w' => (∃ x : Int, e = .returned (.int .i64 x)) ∧ CurPost v C a n cp w') := fun v j hv hC => by
    have b2 : Below v.heap.size v (v.alloc (.cells #[.int .i64 (-1), .int .i64 M, .int .i64 0] 3)) := (Below.refl _ _).alloc (Nat.le_refl _) _
    refine (pick_any C a n cp j v.heap.size 3 3 [-1, M, 0] _ (hv.below b2) (by omega) (by omega) rfl ⟨by simp, fun q z hz => ?_⟩ (by omega)).mono fun e w' hh => ⟨⟨hh.1.choose, hh.1.choose_spec.1⟩, hh.2.1, (Else.of_below b2).trans hh.2.2⟩
    rcases q with _ | _ | _ | q
    · simp at hz; subst hz; simp
    · simp at hz; subst hz; simp
    · simp at hz; subst hz; simp
    · simp at hz
  clear h b1
  by_cases hM : M > 0
  · have z1 : decide (M > 0) = true := decide_eq_true hM
    have z2 : decide (0 < M) = true := decide_eq_true hM
    go_enter Try.func88, Try.ntmps88
    go_wp2_with fail
    go_at_call 111
    refine (once_any C a n cp i 15 _ H1.out (by omega)).mono ?_
    rintro e w2 ⟨⟨x, rfl⟩, ⟨j, hc2⟩, he2⟩
    have y1 : w2.cell? ⟨w.heap.size, 0, none⟩ = some (.int .i64 M) := by rw [he2.cell (by omega) hne]; exact y0
    have H2 := Lib.hid hc2
    have E2 := Lib.hid (E1.out.trans he2)
    have hC2 := hc2.lt
    clear hc2 he2 y0
    cases x with
    | false =>
      go_wp2_with fail
      go_at_call 90
      refine (belw_any C a n cp j M _ H2.out).mono ?_
      rintro e w3 ⟨⟨x, rfl, -⟩, hc3, he3⟩
      have H3 := Lib.hid hc3
      have E3 := Lib.hid (E2.out.trans he3)
      clear hc3 he3
      go_wp2
      go_ret
      exact ⟨⟨_, rfl⟩, H3.out, E3.out⟩
    | true =>
      have HP := Lib.hid (hPick.out w2 j H2.out hC2)
      go_wp2_with fail
      go_at_call 89
      refine HP.out.mono ?_
      rintro e w3 ⟨⟨x, rfl⟩, hc3, he3⟩
      have H3 := Lib.hid hc3
      have E3 := Lib.hid (E2.out.trans he3)
      clear hc3 he3 HP
      go_wp2
      go_ret
      exact ⟨⟨_, rfl⟩, H3.out, E3.out⟩
  · have z1 : decide (M > 0) = false := decide_eq_false hM
    have z2 : decide (0 < M) = false := decide_eq_false hM
    have HP := Lib.hid (hPick.out _ i H1.out (by omega))
    simp only [hsz] at HP
    go_enter Try.func88, Try.ntmps88
    go_wp2_with fail
    go_at_call 89
    refine HP.out.mono ?_
    rintro e w3 ⟨⟨x, rfl⟩, hc3, he3⟩
    have H3 := Lib.hid hc3
    have E3 := Lib.hid (E1.out.trans he3)
    clear hc3 he3 HP
    go_wp2
    go_ret
    exact ⟨⟨_, rfl⟩, H3.out, E3.out⟩

/-- What a drawn graph is. -/
def DvPost (w : World) (e : Ending) (w' : World) : Prop := ∃ M gv L, e = .returned (.agg #[.int .i64 M, gv]) ∧ Row 3 w' w.heap.size w'.heap.size gv L.length (flat L) ∧ L.length ≤ 61 ∧ Below w.heap.size w w'
theorem DvPost.alloc {w w' : World} {e : Ending} (h : DvPost w e w') (o : Obj) : DvPost w e (w'.alloc o) := by
  obtain ⟨M, gv, L, e1, h3, h4, h5⟩ := h
  have hb : Below w'.heap.size w' (w'.alloc o) := (Below.refl _ _).alloc (Nat.le_refl _) _
  exact ⟨M, gv, L, e1, (h3.below hb (Nat.le_refl _)).wide (Nat.le_refl _) hb.size, h4, h5.trans (hb.mono h5.size)⟩
theorem dv_end {w w0 w3 : World} {M : Int} {gv : Value} {L : List Ed} (h0 : w0.heap.size = w.heap.size + 1) (hb0 : Below w.heap.size w w0) (hb : Below w0.heap.size w0 w3) (hr : Row 3 w3 w0.heap.size w3.heap.size gv L.length (flat L)) (hl : L.length ≤ 61) : DvPost w (.returned (.agg #[.int .i64 M, gv])) ((w3.setCell ⟨w.heap.size, 0, none⟩ (.int .i64 M)).setCell ⟨w.heap.size, 1, none⟩ gv) := by
  have hbs := hb.size
  have sz : ((w3.setCell ⟨w.heap.size, 0, none⟩ (.int .i64 M)).setCell ⟨w.heap.size, 1, none⟩ gv).heap.size = w3.heap.size := by simp [World.setCell]
  refine ⟨M, gv, L, rfl, ?_, hl, ⟨hb.os.trans hb0.os, hb.tape.trans hb0.tape, hb.output.trans hb0.output, by rw [sz]; omega, fun b hbb => ?_⟩⟩
  · rw [sz]
    exact ((hr.setCell (p := ⟨w.heap.size, 0, none⟩) (.inl (by show w.heap.size < w0.heap.size; omega)) _).setCell (p := ⟨w.heap.size, 1, none⟩) (.inl (by show w.heap.size < w0.heap.size; omega)) _).wide (by omega) (Nat.le_refl _)
  · rw [Below.heap_setCell _ _ _ _ (show b ≠ w.heap.size by omega), Below.heap_setCell _ _ _ _ (show b ≠ w.heap.size by omega), hb.block b (by omega)]
    exact hb0.block b hbb

/-- A graph and a number are drawn. -/
def DhPost (w : World) (e : Ending) (w' : World) : Prop := ∃ M gv L x, e = .returned (.tuple #[.agg #[.int .i64 M, gv], .int .i64 x]) ∧ Row 3 w' w.heap.size w'.heap.size gv L.length (flat L) ∧ L.length ≤ 61 ∧ Below w.heap.size w w'
theorem dh_end {w w0 w3 : World} {M x : Int} {gv : Value} {L : List Ed} (h0 : w0.heap.size = w.heap.size + 1) (hb0 : Below w.heap.size w w0) (hb : Below w0.heap.size w0 w3) (hr : Row 3 w3 w0.heap.size w3.heap.size gv L.length (flat L)) (hl : L.length ≤ 61) : DhPost w (.returned (.tuple #[.agg #[.int .i64 M, gv], .int .i64 x])) ((w3.setCell ⟨w.heap.size, 0, none⟩ (.int .i64 M)).setCell ⟨w.heap.size, 1, none⟩ gv) := by
  obtain ⟨M', gv', L', e1, h3, h4, h5⟩ := dv_end (M := M) h0 hb0 hb hr hl
  cases e1
  exact ⟨M, gv, L, x, rfl, by
    have hbs := hb.size
    have sz : ((w3.setCell ⟨w.heap.size, 0, none⟩ (.int .i64 M)).setCell ⟨w.heap.size, 1, none⟩ gv).heap.size = w3.heap.size := by simp [World.setCell]
    rw [sz]
    exact ((hr.setCell (p := ⟨w.heap.size, 0, none⟩) (.inl (by show w.heap.size < w0.heap.size; omega)) _).setCell (p := ⟨w.heap.size, 1, none⟩) (.inl (by show w.heap.size < w0.heap.size; omega)) _).wide (by omega) (Nat.le_refl _), hl, h5⟩

set_option maxRecDepth 100000 in
set_option maxHeartbeats 4000000 in
theorem ddist_any (a : Option Addr) (n cp : Nat) (w : World) (hb : BytesAt w a n) (hold : ∀ p : Addr, a = some p → p.block < w.heap.size) : Calls Try.prog 71 #[.slice a n cp] w (DhPost w) := by
  have HO := Lib.hid hold
  have HB := Lib.hid hb
  clear hb hold
  go_enter Try.func71, Try.ntmps71
  go_wp2_with fail
  obtain ⟨w0, hw0⟩ : ∃ q, q = (w.alloc (.cells #[.int .i64 0, .slice none 0 0] 29)) := ⟨_, rfl⟩
  have HR0 : Hid (w0.heap.size = w.heap.size + 1 ∧ Below w.heap.size w w0 ∧ BytesAt w0 a n ∧ w0.cell? ⟨w.heap.size, 0, none⟩ = some (.int .i64 0) ∧ w0.cell? ⟨w.heap.size, 1, none⟩ = some (.slice none 0 0) ∧ ∀ o, w0.frozen? ⟨w.heap.size, o, none⟩ = false) :=
    ⟨by rw [hw0]; simp, by rw [hw0]; exact (Below.refl _ _).alloc (Nat.le_refl _) _, by rw [hw0]; exact BytesAt.alloc HB.out _, by rw [hw0]; show _ = _; simp, by rw [hw0]; show _ = _; simp, fun o => by rw [hw0]; show _ = _; simp⟩
  rw [← hw0]
  clear hw0 HB
  go_at_call 87
  refine (draw_any a n cp w0 HR0.out.2.2.1 (fun p e => by have := HO.out p e; have := HR0.out.1; omega)).mono ?_
  rintro e w1 ⟨C, M, gv, L, rfl, ⟨i, hc1⟩, hC0, hr, hl, hb1⟩
  obtain ⟨ga, gc, hgv⟩ := hr.slice
  subst hgv
  have hs0 := HR0.out.1
  have hs1 := hb1.size
  have hC1 := hc1.lt
  obtain ⟨w2, hw2⟩ : ∃ q, q = w1.alloc (.cells #[.int .i64 M, .slice ga L.length gc] 29) := ⟨_, rfl⟩
  have hb2 : Below w1.heap.size w1 w2 := by rw [hw2]; exact (Below.refl _ _).alloc (Nat.le_refl _) _
  have hs2 : w2.heap.size = w1.heap.size + 1 := by rw [hw2]; simp
  have k0 : w2.drew.cell? ⟨w1.heap.size, 0, none⟩ = some (.int .i64 M) := by rw [hw2]; simp
  have k1 : w2.drew.cell? ⟨w1.heap.size, 1, none⟩ = some (.slice ga L.length gc) := by rw [hw2]; simp
  have hc2 := Lib.hid ((hc1.below hb2).below ((Below.refl w2.heap.size w2).drew))
  have HR2 : Hid (Row 3 w2.drew (C + 1) w1.heap.size (.slice ga L.length gc) L.length (flat L)) := (hr.below hb2 (Nat.le_refl _)).below ((Below.refl w2.heap.size w2).drew) (by omega)
  have r0 : w2.drew.cell? ⟨w.heap.size, 0, none⟩ = some (.int .i64 0) := by show w2.cell? _ = _; rw [hb2.cell (p := ⟨w.heap.size, 0, none⟩) (by show w.heap.size < _; omega), hb1.cell (p := ⟨w.heap.size, 0, none⟩) (by show w.heap.size < _; omega)]; exact HR0.out.2.2.2.1
  have r1 : w2.drew.cell? ⟨w.heap.size, 1, none⟩ = some (.slice none 0 0) := by show w2.cell? _ = _; rw [hb2.cell (p := ⟨w.heap.size, 1, none⟩) (by show w.heap.size < _; omega), hb1.cell (p := ⟨w.heap.size, 1, none⟩) (by show w.heap.size < _; omega)]; exact HR0.out.2.2.2.2.1
  have rf : ∀ o, w2.drew.frozen? ⟨w.heap.size, o, none⟩ = false := fun o => by show w2.frozen? _ = _; rw [hb2.frozen (p := ⟨w.heap.size, o, none⟩) (by show w.heap.size < _; omega), hb1.frozen (p := ⟨w.heap.size, o, none⟩) (by show w.heap.size < _; omega)]; exact HR0.out.2.2.2.2.2 o
  have HB2 : Hid (Below w0.heap.size w0 w2.drew) := (hb1.trans (hb2.mono hs1)).drew
  have n1 : w.heap.size ≠ C := by omega
  have n2 : w1.heap.size ≠ C := by omega
  have hsd : w2.drew.heap.size = w1.heap.size + 1 := hs2
  have R0 := Lib.hid r0
  have R1 := Lib.hid r1
  have RF := Lib.hid rf
  clear r0 r1 rf hr hb1 hc1 hb2 HO
  go_wp2_with fail
  rw [← hw2]
  clear hw2
  go_region_with (first | (go_at_call 88; refine (dnode_any C a n cp i M (.slice ga L.length gc) ⟨_, _, _, rfl⟩ w2.drew hc2.out).mono ?_; rintro e w3 ⟨⟨x, rfl⟩, ⟨j, hc3⟩, he3⟩; have z0 : w3.cell? ⟨w1.heap.size, 0, none⟩ = some (.int .i64 M) := by {rw [he3.cell (by omega) n2]; exact k0}; have z1 : w3.cell? ⟨w1.heap.size, 1, none⟩ = some (.slice ga L.length gc) := by {rw [he3.cell (by omega) n2]; exact k1}; have r0 : w3.cell? ⟨w.heap.size, 0, none⟩ = some (.int .i64 0) := by {rw [he3.cell (by omega) n1]; exact R0.out}; have r1 : w3.cell? ⟨w.heap.size, 1, none⟩ = some (.slice none 0 0) := by {rw [he3.cell (by omega) n1]; exact R1.out}; have f0 : w3.frozen? ⟨w.heap.size, 0, none⟩ = false := by {rw [World.frozen?_of_block (w := w2.drew) (a := ⟨w.heap.size, 0, none⟩) (he3.2.2.2.2 w.heap.size (by omega) n1)]; exact RF.out 0}; have f1 : w3.frozen? ⟨w.heap.size, 1, none⟩ = false := by {rw [World.frozen?_of_block (w := w2.drew) (a := ⟨w.heap.size, 1, none⟩) (he3.2.2.2.2 w.heap.size (by omega) n1)]; exact RF.out 1}))
  all_goals have s01 := res2 (u := .int .i64 M) (v := .slice ga L.length gc) r0 r1
  all_goals obtain ⟨s0, s1⟩ := s01
  all_goals have HE := Lib.hid (dh_end (x := x) (M := M) HR0.out.1 HR0.out.2.1 (HB2.out.trans (he3.below (by omega) (by omega))) ((HR2.out.else_ he3 (by omega) (.inr (by omega))).wide (by omega) (by have := he3.2.2.2.1; omega)) hl)
  all_goals clear hc3 he3 k0 k1 z0 z1
  all_goals go_wp2
  all_goals exact bodyPost_ret (v := .tuple #[.agg #[.int .i64 M, .slice ga L.length gc], .int .i64 x]) (by simp [results, Try.results71, go_sem, s0, s1]) rfl HE.out

set_option maxRecDepth 100000 in
set_option maxHeartbeats 4000000 in
theorem dhop_any (a : Option Addr) (n cp : Nat) (w : World) (hb : BytesAt w a n) (hold : ∀ p : Addr, a = some p → p.block < w.heap.size) : Calls Try.prog 32 #[.slice a n cp] w (DhPost w) := by
  have HO := Lib.hid hold
  have HB := Lib.hid hb
  clear hb hold
  go_enter Try.func32, Try.ntmps32
  go_wp2_with fail
  obtain ⟨w0, hw0⟩ : ∃ q, q = (w.alloc (.cells #[.int .i64 0, .slice none 0 0] 29)) := ⟨_, rfl⟩
  have HR0 : Hid (w0.heap.size = w.heap.size + 1 ∧ Below w.heap.size w w0 ∧ BytesAt w0 a n ∧ w0.cell? ⟨w.heap.size, 0, none⟩ = some (.int .i64 0) ∧ w0.cell? ⟨w.heap.size, 1, none⟩ = some (.slice none 0 0) ∧ ∀ o, w0.frozen? ⟨w.heap.size, o, none⟩ = false) :=
    ⟨by rw [hw0]; simp, by rw [hw0]; exact (Below.refl _ _).alloc (Nat.le_refl _) _, by rw [hw0]; exact BytesAt.alloc HB.out _, by rw [hw0]; show _ = _; simp, by rw [hw0]; show _ = _; simp, fun o => by rw [hw0]; show _ = _; simp⟩
  rw [← hw0]
  clear hw0 HB
  go_at_call 71
  refine (ddist_any a n cp w0 HR0.out.2.2.1 (fun p e => by have := HO.out p e; have := HR0.out.1; omega)).mono ?_
  rintro e w1 ⟨M, gv, L, x, rfl, hr, hl, hb1⟩
  have hs0 := HR0.out.1
  have z0 : w1.cell? ⟨w.heap.size, 0, none⟩ = some (.int .i64 0) := by rw [hb1.cell (p := ⟨w.heap.size, 0, none⟩) (by show w.heap.size < _; omega)]; exact HR0.out.2.2.2.1
  have z1 : w1.cell? ⟨w.heap.size, 1, none⟩ = some (.slice none 0 0) := by rw [hb1.cell (p := ⟨w.heap.size, 1, none⟩) (by show w.heap.size < _; omega)]; exact HR0.out.2.2.2.2.1
  have zf : ∀ o, w1.frozen? ⟨w.heap.size, o, none⟩ = false := fun o => (World.frozen?_of_block (w := w0) (a := ⟨w.heap.size, o, none⟩) (hb1.block w.heap.size (by omega))).trans (HR0.out.2.2.2.2.2 o)
  have zf0 := zf 0
  have zf1 := zf 1
  have Hr := Lib.hid hr
  have Hb1 := Lib.hid hb1
  obtain ⟨ga, gc, hgv⟩ := hr.slice
  subst hgv
  clear hr hb1 zf hs0
  have Hend := Lib.hid (dh_end (M := M) (x := x) HR0.out.1 HR0.out.2.1 Hb1.out Hr.out hl)
  obtain ⟨s0, s1⟩ := res2 (u := .int .i64 M) (v := .slice ga L.length gc) z0 z1
  go_wp2_with fail
  exact bodyPost_ret (v := .tuple #[.agg #[.int .i64 M, .slice ga L.length gc], .int .i64 x]) (by simp [results, Try.results32, go_sem, s0, s1]) rfl Hend.out

end Go.Proofs.Ytnpdbieadjgghaa
