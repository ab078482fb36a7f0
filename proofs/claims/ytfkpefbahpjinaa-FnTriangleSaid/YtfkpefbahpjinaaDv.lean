/- Draws: the graph of a law. -/
import Derived.Test.YtfkpefbahpjinaaDw
namespace Go.Proofs.Ytfkpefbahpjinaa
open Go.RowKit


/-- What a drawn graph is. -/
def DvPost (w : World) (e : Ending) (w' : World) : Prop := ∃ M gv L, e = .returned (.agg #[.int .i64 M, gv]) ∧ Row 3 w' w.heap.size w'.heap.size gv L.length (flat L) ∧ L.length ≤ 61 ∧ Below w.heap.size w w'
theorem DvPost.alloc {w w' : World} {e : Ending} (h : DvPost w e w') (o : Obj) : DvPost w e (w'.alloc o) := by
  obtain ⟨M, gv, L, e1, h3, h4, h5⟩ := h
  have hb : Below w'.heap.size w' (w'.alloc o) := (Below.refl _ _).alloc (Nat.le_refl _) _
  exact ⟨M, gv, L, e1, (h3.below hb (Nat.le_refl _)).wide (Nat.le_refl _) hb.size, h4, h5.trans (hb.mono h5.size)⟩
theorem dv_end {w w0 w3 : World} {M : Int} {gv : Value} {L : List Ed} (h0 : w0.heap.size = w.heap.size + 1) (hb0 : Below w.heap.size w w0) (hb : Below w0.heap.size w0 w3) (hr : Row 3 w3 w0.heap.size w3.heap.size gv L.length (flat L)) (hl : L.length ≤ 61) : DvPost w (.returned (.agg #[.int .i64 M, gv])) ((w3.setCell ⟨w.heap.size, 0, none⟩ (.int .i64 M)).setCell ⟨w.heap.size, 1, none⟩ gv) := by
  have hbs := hb.size
  have sz : ((w3.setCell ⟨w.heap.size, 0, none⟩ (.int .i64 M)).setCell ⟨w.heap.size, 1, none⟩ gv).heap.size = w3.heap.size := by simp [World.setCell]
  refine ⟨M, gv, L, rfl, ?_, hl, ⟨hb.os.trans hb0.os, hb.tape.trans hb0.tape, hb.output.trans hb0.output, by rw [sz]; omega, fun b hbb => ?_⟩⟩
  · rw [sz]
    exact ((hr.setCell (p := ⟨w.heap.size, 0, none⟩) (.inl (by show w.heap.size < w0.heap.size; omega)) _).setCell (p := ⟨w.heap.size, 1, none⟩) (.inl (by show w.heap.size < w0.heap.size; omega)) _).wide (by omega) (Nat.le_refl _)
  · rw [Below.heap_setCell _ _ _ _ (show b ≠ w.heap.size by omega), Below.heap_setCell _ _ _ _ (show b ≠ w.heap.size by omega), hb.block b (by omega)]
    exact hb0.block b hbb

set_option maxRecDepth 100000 in
set_option maxHeartbeats 4000000 in
theorem dgok_any (a : Option Addr) (n cp : Nat) (w : World) (hb : BytesAt w a n) (hold : ∀ p : Addr, a = some p → p.block < w.heap.size) : Calls Try.prog 37 #[.slice a n cp] w (DvPost w) := by
  have HO := Lib.hid hold
  have HB := Lib.hid hb
  clear hb hold
  go_enter Try.func37, Try.ntmps37
  go_wp2_with fail
  obtain ⟨w0, hw0⟩ : ∃ q, q = w.alloc (.cells #[.int .i64 0, .slice none 0 0] 26) := ⟨_, rfl⟩
  have HR0 : Hid (w0.heap.size = w.heap.size + 1 ∧ Below w.heap.size w w0 ∧ BytesAt w0 a n ∧ w0.cell? ⟨w.heap.size, 0, none⟩ = some (.int .i64 0) ∧ w0.cell? ⟨w.heap.size, 1, none⟩ = some (.slice none 0 0) ∧ ∀ o, w0.frozen? ⟨w.heap.size, o, none⟩ = false) :=
    ⟨by rw [hw0]; simp, by rw [hw0]; exact (Below.refl _ _).alloc (Nat.le_refl _) _, by rw [hw0]; exact BytesAt.alloc HB.out _, by rw [hw0]; show _ = _; simp, by rw [hw0]; show _ = _; simp, fun o => by rw [hw0]; show _ = _; simp⟩
  rw [← hw0]
  clear hw0 HB
  go_at_call 54
  refine (draw_any a n cp w0 HR0.out.2.2.1 (fun p e => by have := HO.out p e; have := HR0.out.1; omega)).mono ?_
  rintro e w1 ⟨C, M, gv, L, rfl, _, _, hr, hl, hb1⟩
  have hs0 := HR0.out.1
  have z0 : w1.cell? ⟨w.heap.size, 0, none⟩ = some (.int .i64 0) := by rw [hb1.cell (p := ⟨w.heap.size, 0, none⟩) (by show w.heap.size < _; omega)]; exact HR0.out.2.2.2.1
  have z1 : w1.cell? ⟨w.heap.size, 1, none⟩ = some (.slice none 0 0) := by rw [hb1.cell (p := ⟨w.heap.size, 1, none⟩) (by show w.heap.size < _; omega)]; exact HR0.out.2.2.2.2.1
  have zf : ∀ o, w1.frozen? ⟨w.heap.size, o, none⟩ = false := fun o => (World.frozen?_of_block (w := w0) (a := ⟨w.heap.size, o, none⟩) (hb1.block w.heap.size (by omega))).trans (HR0.out.2.2.2.2.2 o)
  have zf0 := zf 0
  have zf1 := zf 1
  have hs1 := hb1.size
  have hwl : w.heap.size < w1.heap.size := by omega
  have Hr := Lib.hid hr
  have Hb1 := Lib.hid hb1
  obtain ⟨ga, gc, hgv⟩ := hr.slice
  subst hgv
  clear hr hb1 zf hs0 hs1
  have Hend := Lib.hid ((dv_end (M := M) HR0.out.1 HR0.out.2.1 Hb1.out Hr.out hl).alloc (.cells #[.int .i64 M, .slice ga L.length gc] 26))
  obtain ⟨s0, s1⟩ := res2 (u := .int .i64 M) (v := .slice ga L.length gc) z0 z1
  have s2 : (((w1.setCell ⟨w.heap.size, 0, none⟩ (.int .i64 M)).setCell ⟨w.heap.size, 1, none⟩ (.slice ga L.length gc)).alloc (.cells #[.int .i64 M, .slice ga L.length gc] 26)).cell? ⟨w.heap.size, 0, none⟩ = some (.int .i64 M) := by rw [old_box (by simp [World.setCell]; exact hwl)]; exact s0
  have s3 : (((w1.setCell ⟨w.heap.size, 0, none⟩ (.int .i64 M)).setCell ⟨w.heap.size, 1, none⟩ (.slice ga L.length gc)).alloc (.cells #[.int .i64 M, .slice ga L.length gc] 26)).cell? ⟨w.heap.size, 1, none⟩ = some (.slice ga L.length gc) := by rw [old_box (by simp [World.setCell]; exact hwl)]; exact s1
  clear s0 s1
  go_wp2_with fail
  exact bodyPost_ret (v := .agg #[.int .i64 M, .slice ga L.length gc]) (by simp [results, Try.results37, go_sem, s2, s3]) rfl Hend.out

set_option maxRecDepth 100000 in
set_option maxHeartbeats 4000000 in
theorem dad_any (a : Option Addr) (n cp : Nat) (w : World) (hb : BytesAt w a n) (hold : ∀ p : Addr, a = some p → p.block < w.heap.size) : Calls Try.prog 11 #[.slice a n cp] w (DvPost w) := by
  have HO := Lib.hid hold
  have HB := Lib.hid hb
  clear hb hold
  go_enter Try.func11, Try.ntmps11
  go_wp2_with fail
  obtain ⟨w0, hw0⟩ : ∃ q, q = w.alloc (.cells #[.int .i64 0, .slice none 0 0] 26) := ⟨_, rfl⟩
  have HR0 : Hid (w0.heap.size = w.heap.size + 1 ∧ Below w.heap.size w w0 ∧ BytesAt w0 a n ∧ w0.cell? ⟨w.heap.size, 0, none⟩ = some (.int .i64 0) ∧ w0.cell? ⟨w.heap.size, 1, none⟩ = some (.slice none 0 0) ∧ ∀ o, w0.frozen? ⟨w.heap.size, o, none⟩ = false) :=
    ⟨by rw [hw0]; simp, by rw [hw0]; exact (Below.refl _ _).alloc (Nat.le_refl _) _, by rw [hw0]; exact BytesAt.alloc HB.out _, by rw [hw0]; show _ = _; simp, by rw [hw0]; show _ = _; simp, fun o => by rw [hw0]; show _ = _; simp⟩
  rw [← hw0]
  clear hw0 HB
  go_at_call 37
  refine (dgok_any a n cp w0 HR0.out.2.2.1 (fun p e => by have := HO.out p e; have := HR0.out.1; omega)).mono ?_
  rintro e w1 ⟨M, gv, L, rfl, hr, hl, hb1⟩
  have hs0 := HR0.out.1
  have z0 : w1.cell? ⟨w.heap.size, 0, none⟩ = some (.int .i64 0) := by rw [hb1.cell (p := ⟨w.heap.size, 0, none⟩) (by show w.heap.size < _; omega)]; exact HR0.out.2.2.2.1
  have z1 : w1.cell? ⟨w.heap.size, 1, none⟩ = some (.slice none 0 0) := by rw [hb1.cell (p := ⟨w.heap.size, 1, none⟩) (by show w.heap.size < _; omega)]; exact HR0.out.2.2.2.2.1
  have zf : ∀ o, w1.frozen? ⟨w.heap.size, o, none⟩ = false := fun o => (World.frozen?_of_block (w := w0) (a := ⟨w.heap.size, o, none⟩) (hb1.block w.heap.size (by omega))).trans (HR0.out.2.2.2.2.2 o)
  have zf0 := zf 0
  have zf1 := zf 1
  have hs1 := hb1.size
  have hwl : w.heap.size < w1.heap.size := by omega
  have Hr := Lib.hid hr
  have Hb1 := Lib.hid hb1
  obtain ⟨ga, gc, hgv⟩ := hr.slice
  subst hgv
  clear hr hb1 zf hs0 hs1
  have Hend := Lib.hid (dv_end (M := M) HR0.out.1 HR0.out.2.1 Hb1.out Hr.out hl)
  obtain ⟨s0, s1⟩ := res2 (u := .int .i64 M) (v := .slice ga L.length gc) z0 z1
  go_wp2_with fail
  exact bodyPost_ret (v := .agg #[.int .i64 M, .slice ga L.length gc]) (by simp [results, Try.results11, go_sem, s0, s1]) rfl Hend.out

end Go.Proofs.Ytfkpefbahpjinaa
