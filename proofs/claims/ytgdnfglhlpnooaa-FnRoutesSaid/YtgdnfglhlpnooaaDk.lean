/- Draws: a table and a route. -/
import Derived.Test.YtgdnfglhlpnooaaDj
import Derived.Deep.RegionLaw
namespace Go.Proofs.Ytgdnfglhlpnooaa
open Go.RowKit

/-- What holds while a table and a route are drawn: X the table's own variable; the results lie at w.heap.size and one block on. -/
structure DrK (w : World) (C : Nat) (a : Option Addr) (n cp X : Nat) (v : Value) (L : List Rt) (wr : World) : Prop where
  old : ∀ p : Addr, a = some p → p.block < w.heap.size
  cur : ∃ i, Cur wr C a n cp i
  fr : Below w.heap.size w wr
  ord : w.heap.size + 1 < C ∧ C < X ∧ X < wr.heap.size
  x0 : wr.cell? ⟨X, 0, none⟩ = some v
  r0 : ∃ u, wr.cell? ⟨w.heap.size, 0, none⟩ = some u
  rf : ∀ o, wr.frozen? ⟨w.heap.size, o, none⟩ = false
  b0 : ∃ u, wr.cell? ⟨w.heap.size + 1, 0, none⟩ = some u
  b1 : ∃ u, wr.cell? ⟨w.heap.size + 1, 1, none⟩ = some u
  b2 : ∃ u, wr.cell? ⟨w.heap.size + 1, 2, none⟩ = some u
  bf : ∀ o, wr.frozen? ⟨w.heap.size + 1, o, none⟩ = false
  row : ∃ lo, Row 3 wr lo X v L.length (flat L) ∧ C < lo
theorem DrK.on {w wr w2 : World} {C n cp X : Nat} {a : Option Addr} {v : Value} {L : List Rt} (h : DrK w C a n cp X v L wr) (hc : ∃ i, Cur w2 C a n cp i) (he : Else C wr w2) : DrK w C a n cp X v L w2 := by
  have o := h.ord
  have sz := he.2.2.2.1
  obtain ⟨lo, hr, hl⟩ := h.row
  have cc : ∀ b o', b < wr.heap.size → b ≠ C → w2.cell? ⟨b, o', none⟩ = wr.cell? ⟨b, o', none⟩ := fun b o' h1 h2 => he.cell h1 h2
  have ff : ∀ b o', b < wr.heap.size → b ≠ C → w2.frozen? ⟨b, o', none⟩ = wr.frozen? ⟨b, o', none⟩ := fun b o' h1 h2 => World.frozen?_of_block (w := wr) (a := ⟨b, o', none⟩) (he.2.2.2.2 b h1 h2)
  exact ⟨h.old, hc, h.fr.trans (he.below (by omega) h.fr.size), ⟨o.1, o.2.1, by omega⟩, by rw [cc _ _ (by omega) (by omega)]; exact h.x0, by rw [cc _ _ (by omega) (by omega)]; exact h.r0, fun o' => by rw [ff _ _ (by omega) (by omega)]; exact h.rf o',
    by rw [cc _ _ (by omega) (by omega)]; exact h.b0, by rw [cc _ _ (by omega) (by omega)]; exact h.b1, by rw [cc _ _ (by omega) (by omega)]; exact h.b2, fun o' => by rw [ff _ _ (by omega) (by omega)]; exact h.bf o', ⟨lo, hr.else_ he (by omega) (.inr hl), hl⟩⟩
theorem DrK.grow {w wr w2 : World} {C n cp X : Nat} {a : Option Addr} {v : Value} {L : List Rt} (h : DrK w C a n cp X v L wr) (b : Below wr.heap.size wr w2) : DrK w C a n cp X v L w2 := by
  obtain ⟨i, hc⟩ := h.cur
  exact h.on ⟨i, hc.below b⟩ (Else.of_below b)
/-- The results' cells. -/
def WrB (w wx : World) (v p q z : Value) : World := (((wx.setCell ⟨w.heap.size, 0, none⟩ v).setCell ⟨w.heap.size + 1, 0, none⟩ p).setCell ⟨w.heap.size + 1, 1, none⟩ q).setCell ⟨w.heap.size + 1, 2, none⟩ z
theorem DrK.res {w wr : World} {C n cp X : Nat} {a : Option Addr} {v p q z : Value} {L : List Rt} (h : DrK w C a n cp X v L wr) :
    (WrB w wr v p q z).cell? ⟨w.heap.size, 0, none⟩ = some v ∧ (WrB w wr v p q z).cell? ⟨w.heap.size + 1, 0, none⟩ = some p ∧ (WrB w wr v p q z).cell? ⟨w.heap.size + 1, 1, none⟩ = some q ∧ (WrB w wr v p q z).cell? ⟨w.heap.size + 1, 2, none⟩ = some z := by
  obtain ⟨u, hu⟩ := h.r0
  obtain ⟨u0, hu0⟩ := h.b0
  obtain ⟨u1, hu1⟩ := h.b1
  obtain ⟨u2, hu2⟩ := h.b2
  unfold WrB
  refine ⟨?_, ?_, ?_, ?_⟩
  · rw [World.cell?_setCell_other _ _ _ _ (by simp), World.cell?_setCell_other _ _ _ _ (by simp), World.cell?_setCell_other _ _ _ _ (by simp)]
    exact World.cell?_setCell_same _ _ _ hu
  · rw [World.cell?_setCell_other _ _ _ _ (by simp), World.cell?_setCell_other _ _ _ _ (by simp)]
    exact World.cell?_setCell_same _ _ _ (by rw [World.cell?_setCell_other _ _ _ _ (by simp)]; exact hu0)
  · rw [World.cell?_setCell_other _ _ _ _ (by simp)]
    exact World.cell?_setCell_same _ _ _ (by rw [World.cell?_setCell_other _ _ _ _ (by simp), World.cell?_setCell_other _ _ _ _ (by simp)]; exact hu1)
  · exact World.cell?_setCell_same _ _ _ (by rw [World.cell?_setCell_other _ _ _ _ (by simp), World.cell?_setCell_other _ _ _ _ (by simp), World.cell?_setCell_other _ _ _ _ (by simp)]; exact hu2)
/-- A table and a route, whatever they are. -/
def DrPost (w : World) (e : Ending) (w' : World) : Prop := ∃ rv L, ∃ p q z : Int, e = .returned (.tuple #[.agg #[rv], .agg #[.int .i64 p, .int .i64 q, .int .i64 z]]) ∧ L.length ≤ 201 ∧ Row 3 w' w.heap.size w'.heap.size rv L.length (flat L) ∧ Below w.heap.size w w'
theorem DrK.done {w wr : World} {C n cp X : Nat} {a : Option Addr} {v : Value} {p q z : Int} {L : List Rt} (h : DrK w C a n cp X v L wr) (hL : L.length ≤ 201) : DrPost w (.returned (.tuple #[.agg #[v], .agg #[.int .i64 p, .int .i64 q, .int .i64 z]])) (WrB w wr v (.int .i64 p) (.int .i64 q) (.int .i64 z)) := by
  have o := h.ord
  obtain ⟨lo, hr, hl⟩ := h.row
  refine ⟨v, L, p, q, z, rfl, hL, ?_, ?_⟩
  · unfold WrB
    exact ((((hr.setCell (p := ⟨w.heap.size, 0, none⟩) (.inl (by show w.heap.size < lo; omega)) _).setCell (p := ⟨w.heap.size + 1, 0, none⟩) (.inl (by show w.heap.size + 1 < lo; omega)) _).setCell (p := ⟨w.heap.size + 1, 1, none⟩) (.inl (by show w.heap.size + 1 < lo; omega)) _).setCell (p := ⟨w.heap.size + 1, 2, none⟩) (.inl (by show w.heap.size + 1 < lo; omega)) _).wide (by omega) (by simp [World.setCell]; omega)
  · unfold WrB
    exact (((h.fr.setCell (Nat.le_refl _) _).setCell (by show w.heap.size ≤ w.heap.size + 1; omega) _).setCell (by show w.heap.size ≤ w.heap.size + 1; omega) _).setCell (by show w.heap.size ≤ w.heap.size + 1; omega) _

set_option maxRecDepth 100000 in
set_option maxHeartbeats 4000000 in
theorem drput_any (a : Option Addr) (n cp : Nat) (w : World) (hb : BytesAt w a n) (hold : ∀ p : Addr, a = some p → p.block < w.heap.size) : Calls Try.prog 23 #[.slice a n cp] w (DrPost w) := by
  have HB := Lib.hid hb
  have HO := Lib.hid hold
  clear hb hold
  go_enter Try.func23, Try.ntmps23
  go_wp2_with fail
  obtain ⟨wa, hwa⟩ : ∃ qq, qq = (w.alloc (.cells #[.slice none 0 0] 30)).alloc (.cells #[.int .i64 0, .int .i64 0, .int .i64 0] 43) := ⟨_, rfl⟩
  have hba : Below w.heap.size w wa := by rw [hwa]; go_grown
  have sza : wa.heap.size = w.heap.size + 1 + 1 := by rw [hwa]; simp
  have ra0 : wa.cell? ⟨w.heap.size, 0, none⟩ = some (.slice none 0 0) := by rw [hwa]; simp
  have rb0 : wa.cell? ⟨w.heap.size + 1, 0, none⟩ = some (.int .i64 0) := by rw [hwa]; simp
  have rb1 : wa.cell? ⟨w.heap.size + 1, 1, none⟩ = some (.int .i64 0) := by rw [hwa]; simp
  have rb2 : wa.cell? ⟨w.heap.size + 1, 2, none⟩ = some (.int .i64 0) := by rw [hwa]; simp
  have fa : ∀ o, wa.frozen? ⟨w.heap.size, o, none⟩ = false := fun o => by rw [hwa]; simp
  have fb : ∀ o, wa.frozen? ⟨w.heap.size + 1, o, none⟩ = false := fun o => by rw [hwa]; simp
  rw [← hwa]
  clear hwa
  go_at_call 64
  refine (one_any a n cp _ (HB.out.below hba) (fun p hp => by have := HO.out p hp; omega)).mono ?_
  rintro e w1 ⟨C, rv, L, rfl, hC, ⟨i1, c1⟩, hL, ⟨lo, hr, hlo⟩, b1⟩
  obtain ⟨ra, rc, rfl⟩ := hr.slice
  have hC1 := c1.lt
  have HDa : Hid (DrK w C a n cp w1.heap.size (.slice ra L.length rc) L (w1.alloc (.cells #[.slice ra L.length rc] 30))) := by
    have bc : ∀ b o, b < wa.heap.size → w1.cell? ⟨b, o, none⟩ = wa.cell? ⟨b, o, none⟩ := fun b o hb => b1.cell (p := ⟨b, o, none⟩) hb
    have bf : ∀ b o, b < wa.heap.size → w1.frozen? ⟨b, o, none⟩ = wa.frozen? ⟨b, o, none⟩ := fun b o hb => b1.frozen (p := ⟨b, o, none⟩) hb
    have hb2 : Below w1.heap.size w1 (w1.alloc (.cells #[.slice ra L.length rc] 30)) := by go_grown
    have oc : ∀ b o, b < wa.heap.size → (w1.alloc (.cells #[.slice ra L.length rc] 30)).cell? ⟨b, o, none⟩ = wa.cell? ⟨b, o, none⟩ := fun b o hb => (hb2.cell (p := ⟨b, o, none⟩) (by show b < w1.heap.size; have := b1.size; omega)).trans (bc b o hb)
    have of : ∀ b o, b < wa.heap.size → (w1.alloc (.cells #[.slice ra L.length rc] 30)).frozen? ⟨b, o, none⟩ = wa.frozen? ⟨b, o, none⟩ := fun b o hb => (hb2.frozen (p := ⟨b, o, none⟩) (by show b < w1.heap.size; have := b1.size; omega)).trans (bf b o hb)
    exact ⟨HO.out, ⟨i1, c1.below hb2⟩, (hba.trans (b1.mono (by omega))).trans (hb2.mono (by have := b1.size; omega)), ⟨by omega, hC1, by simp⟩, by simp, ⟨_, by rw [oc _ _ (by omega)]; exact ra0⟩, fun o => by rw [of _ _ (by omega)]; exact fa o, ⟨_, by rw [oc _ _ (by omega)]; exact rb0⟩, ⟨_, by rw [oc _ _ (by omega)]; exact rb1⟩, ⟨_, by rw [oc _ _ (by omega)]; exact rb2⟩, fun o => by rw [of _ _ (by omega)]; exact fb o, ⟨lo, hr.below hb2 (Nat.le_refl _), hlo⟩⟩
  have hC2 : w.heap.size < C ∧ w.heap.size + 1 < C := by omega
  clear ra0 rb0 rb1 rb2 fa fb hr hba b1 c1
  go_wp2_with fail
  obtain ⟨wb, hwb⟩ : ∃ qq, qq = w1.alloc (.cells #[.slice ra L.length rc] 30) := ⟨_, rfl⟩
  rw [← hwb] at HDa ⊢
  clear hwb
  have xb := HDa.out.x0
  go_region_law (
    go_simp
    first
    | (
        go_at_call 65
        refine (down_any C n cp _ _ w1.heap.size L.length a _ L _ (by first | exact HDa.out.cur.choose_spec | exact HDa.out.cur.choose_spec.below (Below.refl _ _).drew) (fun p hp => by have h1 := HDa.out.old p hp; have h2 := HDa.out.fr.size; first | (show p.block < wb.heap.size; omega) | omega) rfl (by first | exact HDa.out.row.choose_spec.1) (by have := HDa.out.ord; first | (show w1.heap.size ≤ wb.heap.size; omega) | omega) (.inr HDa.out.row.choose_spec.2)).mono ?_
        rintro e w5 ⟨⟨p, q, rfl⟩, k5, e5⟩
        have HD5 : Hid (DrK w C a n cp w1.heap.size (.slice ra L.length rc) L w5) := Lib.hid (HDa.out.on k5 e5)
        have x5 := HD5.out.x0
        clear k5 e5
      )
    | (
        go_at_call 67
        refine (belw_any C a n cp _ 1000 _ (by first | exact HD5.out.cur.choose_spec | exact HD5.out.cur.choose_spec.below (Below.refl _ _).drew)).mono ?_
        rintro e w6 ⟨⟨x, rfl, y0, y1, -⟩, k6, e6⟩
        have HD6 : Hid (DrK w C a n cp w1.heap.size (.slice ra L.length rc) L w6) := Lib.hid (HD5.out.on k6 e6)
        have x6 := HD6.out.x0
        have HB7 : Hid (Below w6.heap.size w6 (w6.alloc (.cells #[.int .i64 0, .int .i64 1, .int .i64 2, .int .i64 x, .int .i64 999, .int .i64 1000, .int .i64 (-1)] 3))) := Lib.hid (by go_grown)
        have HD7 : Hid (DrK w C a n cp w1.heap.size (.slice ra L.length rc) L (w6.alloc (.cells #[.int .i64 0, .int .i64 1, .int .i64 2, .int .i64 x, .int .i64 999, .int .i64 1000, .int .i64 (-1)] 3))) := Lib.hid (HD6.out.grow HB7.out)
        have HL7 : Hid (ListAt (w6.alloc (.cells #[.int .i64 0, .int .i64 1, .int .i64 2, .int .i64 x, .int .i64 999, .int .i64 1000, .int .i64 (-1)] 3)) w6.heap.size [0, 1, 2, x, 999, 1000, -1]) := Lib.hid (list_at w6 [0, 1, 2, x, 999, 1000, -1] 3)
        have hn7 : w6.heap.size ≠ C := by have := HD6.out.ord; omega
        have x7 := HD7.out.x0
        clear k6 e6 y1 HB7
      )
    | (
        go_at_call 66
        refine (pick_any C a n cp _ w6.heap.size 7 7 [0, 1, 2, x, 999, 1000, -1] _ (by first | exact HD7.out.cur.choose_spec | exact HD7.out.cur.choose_spec.below (Below.refl _ _).drew) (by omega) (by omega) rfl (by first | exact HL7.out | exact HL7.out.else_ (C := C) (Else.of_below (Below.refl _ _).drew) hn7) hn7).mono ?_
        rintro e w8 ⟨⟨z, rfl, -⟩, k8, e8⟩
        have HD8 : Hid (DrK w C a n cp w1.heap.size (.slice ra L.length rc) L w8) := Lib.hid (HD7.out.on k8 e8)
        have x8 := HD8.out.x0
        obtain ⟨u, hu⟩ := HD8.out.r0
        obtain ⟨u0, hu0⟩ := HD8.out.b0
        obtain ⟨u1, hu1⟩ := HD8.out.b1
        obtain ⟨u2, hu2⟩ := HD8.out.b2
        have hf := HD8.out.rf 0
        have hf0 := HD8.out.bf 0
        have hf1 := HD8.out.bf 1
        have hf2 := HD8.out.bf 2
        have HP := Lib.hid (HD8.out.done (p := p) (q := q) (z := z) hL)
        have HR := Lib.hid (HD8.out.res (p := .int .i64 p) (q := .int .i64 q) (z := .int .i64 z))
        clear k8 e8
      )
    )
  all_goals
    unfold WrB at HP HR
    obtain ⟨s0, s1, s2, s3⟩ := HR.out
    go_wp2_with fail
    exact bodyPost_ret (v := .tuple #[.agg #[.slice ra L.length rc], .agg #[.int .i64 p, .int .i64 q, .int .i64 z]]) (by simp [results, Try.results23, go_sem, s0, s1, s2, s3]) rfl HP.out

end Go.Proofs.Ytgdnfglhlpnooaa
