/- Draws: a graph and a node. -/
import Derived.Test.YtjenjdhoblcohaaDg
import Derived.Test.YtjenjdhoblcohaaDw
namespace Go.Proofs.Ytjenjdhoblcohaa
open Go.RowKit

set_option maxRecDepth 100000 in
set_option maxHeartbeats 2400000 in
theorem belw_any (C : Nat) (a : Option Addr) (n cp i : Nat) (m : Int) (w : World) (h : Cur w C a n cp i) :
    Calls Try.prog 82 #[.pointer (some ⟨C, 0, none⟩), .int .i64 m] w fun e w' => (∃ x : Int, e = .returned (.int .i64 x) ∧ 0 ≤ x ∧ (0 < m → x < m) ∧ (m ≤ 0 → x = 0)) ∧ CurPost w C a n cp w' := by
  have HC := Lib.hid h
  clear h
  by_cases h0 : m ≤ 0
  · go_enter Try.func82, Try.ntmps82
    go_wp2_with fail
    go_ret
    exact ⟨⟨0, rfl, Int.le_refl _, fun h => by omega, fun _ => rfl⟩, ⟨i, HC.out⟩, Else.refl' _ _⟩
  · by_cases h1 : m ≤ 256
    · have hne : (m == 0) = false := by simp; omega
      go_enter Try.func82, Try.ntmps82
      go_wp2_with fail
      go_at_call 106
      refine (byte_any C a n cp i _ HC.out).mono ?_
      rintro e w1 ⟨⟨x, rfl, hx0, hx1⟩, hC1, hE1⟩
      go_wp2_with fail
      go_ret
      exact ⟨⟨x % m, rfl, Int.emod_nonneg _ (by omega), fun _ => Int.emod_lt_of_pos _ (by omega), fun h => by omega⟩, hC1, hE1⟩
    · have hne : (m == 0) = false := by simp; omega
      go_enter Try.func82, Try.ntmps82
      go_wp2_with fail
      go_at_call 106
      refine (byte_any C a n cp i _ HC.out).mono ?_
      rintro e w1 ⟨⟨x, rfl, hx0, hx1⟩, ⟨i1, hC1⟩, hE1⟩
      go_wp2_with fail
      go_at_call 106
      refine (byte_any C a n cp i1 _ hC1).mono ?_
      rintro e w2 ⟨⟨y, rfl, hy0, hy1⟩, ⟨i2, hC2⟩, hE2⟩
      go_wp2_with fail
      go_at_call 106
      refine (byte_any C a n cp i2 _ hC2).mono ?_
      rintro e w3 ⟨⟨z, rfl, hz0, hz1⟩, hC3, hE3⟩
      go_wp2_with fail
      go_ret
      exact ⟨⟨_, rfl, Int.emod_nonneg _ (by omega), fun _ => Int.emod_lt_of_pos _ (by omega), fun h => by omega⟩, hC3, (hE1.trans hE2).trans hE3⟩

set_option maxRecDepth 100000 in
set_option maxHeartbeats 4000000 in
/-- A node is drawn, or a number beside them. -/
theorem dnode_any (C : Nat) (a : Option Addr) (n cp i : Nat) (M : Int) (gv : Value) (hgv : ∃ x y z, gv = .slice x y z) (w : World) (h : Cur w C a n cp i) :
    Calls Try.prog 80 #[.pointer (some ⟨C, 0, none⟩), .agg #[.int .i64 M, gv]] w fun e w' => (∃ x : Int, e = .returned (.int .i64 x)) ∧ CurPost w C a n cp w' := by
  obtain ⟨gx, gy, gz, rfl⟩ := hgv
  have hCl := h.lt
  have b1 : Below w.heap.size w (w.alloc (.cells #[.int .i64 M, .slice gx gy gz] 29)) := (Below.refl _ _).alloc (Nat.le_refl _) _
  have H1 := Lib.hid (h.below b1)
  have E1 : Hid (Else C w (w.alloc (.cells #[.int .i64 M, .slice gx gy gz] 29))) := Else.of_below b1
  have hne : w.heap.size ≠ C := by omega
  have hsz : (w.alloc (.cells #[.int .i64 M, .slice gx gy gz] 29)).heap.size = w.heap.size + 1 := by simp
  have y0 : (w.alloc (.cells #[.int .i64 M, .slice gx gy gz] 29)).cell? ⟨w.heap.size, 0, none⟩ = some (.int .i64 M) := by simp
  have hPick : Hid (∀ (v : World) (j : Nat), Cur v C a n cp j → C < v.heap.size → Calls Try.prog 81 #[.pointer (some ⟨C, 0, none⟩), .slice (some ⟨v.heap.size, 0, none⟩) 3 3] (v.alloc (.cells #[.int .i64 (-1), .int .i64 M, .int .i64 0] 3)) fun e w' => (∃ x : Int, e = .returned (.int .i64 x)) ∧ CurPost v C a n cp w') := fun v j hv hC => by
    have b2 : Below v.heap.size v (v.alloc (.cells #[.int .i64 (-1), .int .i64 M, .int .i64 0] 3)) := (Below.refl _ _).alloc (Nat.le_refl _) _
    refine (pick_any C a n cp j v.heap.size 3 3 [-1, M, 0] _ (hv.below b2) (by omega) (by omega) rfl ⟨by simp, fun q z hz => ?_⟩ (by omega)).mono fun e w' hh => ⟨⟨hh.1.choose, hh.1.choose_spec.1⟩, hh.2.1, (Else.of_below b2).trans hh.2.2⟩
    rcases q with _ | _ | _ | q
    · simp at hz; subst hz; simp
    · simp at hz; subst hz; simp
    · simp at hz; subst hz; simp
    · simp at hz
  clear h b1
  by_cases hM : M > 0
  · have z1 : decide (M > 0) = true := decide_eq_true hM
    have z2 : decide (0 < M) = true := decide_eq_true hM
    go_enter Try.func80, Try.ntmps80
    go_wp2_with fail
    go_at_call 94
    refine (once_any C a n cp i 15 _ H1.out (by omega)).mono ?_
    rintro e w2 ⟨⟨x, rfl⟩, ⟨j, hc2⟩, he2⟩
    have y1 : w2.cell? ⟨w.heap.size, 0, none⟩ = some (.int .i64 M) := by rw [he2.cell (by omega) hne]; exact y0
    have H2 := Lib.hid hc2
    have E2 := Lib.hid (E1.out.trans he2)
    have hC2 := hc2.lt
    clear hc2 he2 y0
    cases x with
    | false =>
      go_wp2_with fail
      go_at_call 82
      refine (belw_any C a n cp j M _ H2.out).mono ?_
      rintro e w3 ⟨⟨x, rfl, -⟩, hc3, he3⟩
      have H3 := Lib.hid hc3
      have E3 := Lib.hid (E2.out.trans he3)
      clear hc3 he3
      go_wp2
      go_ret
      exact ⟨⟨_, rfl⟩, H3.out, E3.out⟩
    | true =>
      have HP := Lib.hid (hPick.out w2 j H2.out hC2)
      go_wp2_with fail
      go_at_call 81
      refine HP.out.mono ?_
      rintro e w3 ⟨⟨x, rfl⟩, hc3, he3⟩
      have H3 := Lib.hid hc3
      have E3 := Lib.hid (E2.out.trans he3)
      clear hc3 he3 HP
      go_wp2
      go_ret
      exact ⟨⟨_, rfl⟩, H3.out, E3.out⟩
  · have z1 : decide (M > 0) = false := decide_eq_false hM
    have z2 : decide (0 < M) = false := decide_eq_false hM
    have HP := Lib.hid (hPick.out _ i H1.out (by omega))
    simp only [hsz] at HP
    go_enter Try.func80, Try.ntmps80
    go_wp2_with fail
    go_at_call 81
    refine HP.out.mono ?_
    rintro e w3 ⟨⟨x, rfl⟩, hc3, he3⟩
    have H3 := Lib.hid hc3
    have E3 := Lib.hid (E1.out.trans he3)
    clear hc3 he3 HP
    go_wp2
    go_ret
    exact ⟨⟨_, rfl⟩, H3.out, E3.out⟩

/-- What a drawn graph is. -/
def DvPost (w : World) (e : Ending) (w' : World) : Prop := ∃ M gv L, e = .returned (.agg #[.int .i64 M, gv]) ∧ Row 3 w' w.heap.size w'.heap.size gv L.length (flat L) ∧ L.length ≤ 61 ∧ Below w.heap.size w w'
theorem DvPost.alloc {w w' : World} {e : Ending} (h : DvPost w e w') (o : Obj) : DvPost w e (w'.alloc o) := by
  obtain ⟨M, gv, L, e1, h3, h4, h5⟩ := h
  have hb : Below w'.heap.size w' (w'.alloc o) := (Below.refl _ _).alloc (Nat.le_refl _) _
  exact ⟨M, gv, L, e1, (h3.below hb (Nat.le_refl _)).wide (Nat.le_refl _) hb.size, h4, h5.trans (hb.mono h5.size)⟩
theorem dv_end {w w0 w3 : World} {M : Int} {gv : Value} {L : List Ed} (h0 : w0.heap.size = w.heap.size + 1) (hb0 : Below w.heap.size w w0) (hb : Below w0.heap.size w0 w3) (hr : Row 3 w3 w0.heap.size w3.heap.size gv L.length (flat L)) (hl : L.length ≤ 61) : DvPost w (.returned (.agg #[.int .i64 M, gv])) ((w3.setCell ⟨w.heap.size, 0, none⟩ (.int .i64 M)).setCell ⟨w.heap.size, 1, none⟩ gv) := by
  have hbs := hb.size
  have sz : ((w3.setCell ⟨w.heap.size, 0, none⟩ (.int .i64 M)).setCell ⟨w.heap.size, 1, none⟩ gv).heap.size = w3.heap.size := by simp [World.setCell]
  refine ⟨M, gv, L, rfl, ?_, hl, ⟨hb.os.trans hb0.os, hb.tape.trans hb0.tape, hb.output.trans hb0.output, by rw [sz]; omega, fun b hbb => ?_⟩⟩
  · rw [sz]
    exact ((hr.setCell (p := ⟨w.heap.size, 0, none⟩) (.inl (by show w.heap.size < w0.heap.size; omega)) _).setCell (p := ⟨w.heap.size, 1, none⟩) (.inl (by show w.heap.size < w0.heap.size; omega)) _).wide (by omega) (Nat.le_refl _)
  · rw [Below.heap_setCell _ _ _ _ (show b ≠ w.heap.size by omega), Below.heap_setCell _ _ _ _ (show b ≠ w.heap.size by omega), hb.block b (by omega)]
    exact hb0.block b hbb

/-- A graph and a number are drawn. -/
def DhPost (w : World) (e : Ending) (w' : World) : Prop := ∃ M gv L x, e = .returned (.tuple #[.agg #[.int .i64 M, gv], .int .i64 x]) ∧ Row 3 w' w.heap.size w'.heap.size gv L.length (flat L) ∧ L.length ≤ 61 ∧ Below w.heap.size w w'
theorem dh_end {w w0 w3 : World} {M x : Int} {gv : Value} {L : List Ed} (h0 : w0.heap.size = w.heap.size + 1) (hb0 : Below w.heap.size w w0) (hb : Below w0.heap.size w0 w3) (hr : Row 3 w3 w0.heap.size w3.heap.size gv L.length (flat L)) (hl : L.length ≤ 61) : DhPost w (.returned (.tuple #[.agg #[.int .i64 M, gv], .int .i64 x])) ((w3.setCell ⟨w.heap.size, 0, none⟩ (.int .i64 M)).setCell ⟨w.heap.size, 1, none⟩ gv) := by
  obtain ⟨M', gv', L', e1, h3, h4, h5⟩ := dv_end (M := M) h0 hb0 hb hr hl
  cases e1
  exact ⟨M, gv, L, x, rfl, by
    have hbs := hb.size
    have sz : ((w3.setCell ⟨w.heap.size, 0, none⟩ (.int .i64 M)).setCell ⟨w.heap.size, 1, none⟩ gv).heap.size = w3.heap.size := by simp [World.setCell]
    rw [sz]
    exact ((hr.setCell (p := ⟨w.heap.size, 0, none⟩) (.inl (by show w.heap.size < w0.heap.size; omega)) _).setCell (p := ⟨w.heap.size, 1, none⟩) (.inl (by show w.heap.size < w0.heap.size; omega)) _).wide (by omega) (Nat.le_refl _), hl, h5⟩

end Go.Proofs.Ytjenjdhoblcohaa
