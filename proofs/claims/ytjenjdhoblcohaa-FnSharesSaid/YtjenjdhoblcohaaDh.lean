/- Draws: a graph, walked. -/
import Derived.Test.YtjenjdhoblcohaaDg
namespace Go.Proofs.Ytjenjdhoblcohaa
open Go.RowKit


theorem DgS.done {w wr : World} {C n cp R X H : Nat} {a : Option Addr} {m : Int} {gv : Value} {L' : List Ed} (h : DgS w wr C a n cp m R X H gv L') (u v : Value) : (∃ lo, RowO ((wr.setCell ⟨R, 0, none⟩ u).setCell ⟨R, 1, none⟩ v) lo ((wr.setCell ⟨R, 0, none⟩ u).setCell ⟨R, 1, none⟩ v).heap.size gv L' ∧ w.heap.size ≤ lo) ∧ CurPost w C a n cp ((wr.setCell ⟨R, 0, none⟩ u).setCell ⟨R, 1, none⟩ v) := by
  have o := h.ord
  obtain ⟨lo, h1, h2⟩ := h.row
  obtain ⟨i, hc⟩ := h.cur
  have hH := h.hH
  refine ⟨⟨lo, ((h1.setCell (p := ⟨R, 0, none⟩) (.inl (by show R < lo; omega)) u).setCell (p := ⟨R, 1, none⟩) (.inl (by show R < lo; omega)) v).wide (Nat.le_refl _) (by simp [World.setCell]; omega), by omega⟩, ⟨i, (hc.far h.old o.1 o.2.1).far h.old o.1 o.2.1⟩, (h.fr.set' o.2.1 0 u).set' o.2.1 1 v⟩
/-- What a drawn graph is: some nodes, at most sixty edges, whatever they are. -/
def DgPost (w : World) (C : Nat) (a : Option Addr) (n cp : Nat) (m : Int) (e : Ending) (w' : World) : Prop := ∃ gv L', e = .returned (.agg #[.int .i64 m, gv]) ∧ (∃ lo, RowO w' lo w'.heap.size gv L' ∧ w.heap.size ≤ lo) ∧ L'.length ≤ 60 ∧ CurPost w C a n cp w'
set_option maxRecDepth 100000 in
set_option maxHeartbeats 4000000 in
theorem dgraph_any (C n cp i : Nat) (a : Option Addr) (m kk : Int) (w : World) (h : Cur w C a n cp i) (old : ∀ p : Addr, a = some p → p.block < w.heap.size) (hm : m ≤ 1000000) (hk : kk ≤ 1000000) :
    Calls Try.prog 104 #[.pointer (some ⟨C, 0, none⟩), .int .i64 m, .int .i64 kk] w (DgPost w C a n cp m) := by
  have HC := Lib.hid h
  have Hold := Lib.hid old
  have hCl := h.lt
  clear h old
  go_enter Try.func104, Try.ntmps104
  go_wp2_with fail
  obtain ⟨w0, hw0⟩ : ∃ qq, qq = ((w.alloc (.cells #[.int .i64 0, .slice none 0 0] 29)).alloc (.cells #[.int .i64 m, .slice none 0 0] 29)) := ⟨_, rfl⟩
  have HD0 : Hid (DgS w w0 C a n cp m w.heap.size (w.heap.size + 1) w0.heap.size (.slice none 0 0) []) := by
    have hs : w0.heap.size = w.heap.size + 1 + 1 := by rw [hw0]; simp
    have hb : Below w.heap.size w w0 := by rw [hw0]; go_grown
    exact ⟨Hold.out, ⟨i, HC.out.below hb⟩, Else.of_below hb, ⟨hCl, Nat.le_refl _, by omega, by omega⟩, ⟨by rw [hw0]; simp, by rw [hw0]; simp⟩, fun o => by rw [hw0]; simp, by rw [hw0]; simp, by rw [hw0]; simp, fun o => by rw [hw0]; simp, ⟨w0.heap.size, RowO.empty _ _ _, by omega⟩, Nat.le_refl _, by simp⟩
  rw [← hw0]
  clear hw0
  go_loopw [8] (fun iv wr => ∃ (k : Nat) (gv : Value) (L' : List Ed) (H : Nat), (k : Int) ≤ 1000000 ∧ iv = .int .i64 (k : Int) ∧ Hid (DgS w wr C a n cp m w.heap.size (w.heap.size + 1) H gv L')) (fun iv _ => 1000001 - (intOf iv).toNat)
  case atStart => exact ⟨0, _, [], _, by omega, rfl, HD0⟩
  case round =>
    clear HD0
    obtain ⟨k, gv, L', H, hkb, rfl, hD⟩ := hrel
    obtain ⟨lo0, hr0, _⟩ := hD.out.row
    obtain ⟨ga, gc, hgv⟩ := hr0.slice
    subst hgv
    have hlen := hD.out.len
    have hord := hD.out.ord
    have hH0 := hD.out.hH
    clear hr0
    by_cases hk1 : (k : Int) < kk
    · by_cases hm1 : 1 < m
      · have d1 : decide ((k : Int) < kk) = true := decide_eq_true hk1
        have d2 : decide (1 < m) = true := decide_eq_true hm1
        obtain ⟨ci2, hc3⟩ := hD.out.cur
        go_wp2_with fail
        go_at_call 82
        refine (below_any C a n cp ci2 (m) _ hc3 (by omega)).mono ?_
        rintro e w1 ⟨⟨p, rfl, p0, p1, p2⟩, k4, he5⟩
        clear hc3
        have HD6 := Lib.hid (hD.out.else_ he5 k4)
        have sz7 := he5.2.2.2.1
        clear he5 k4
        obtain ⟨ci9, hc10⟩ := HD6.out.cur
        go_wp2_with fail
        go_at_call 82
        refine (below_any C a n cp ci9 (m) _ hc10 (by omega)).mono ?_
        rintro e w8 ⟨⟨q, rfl, q0, q1, q2⟩, k11, he12⟩
        clear hc10
        have HD13 := Lib.hid (HD6.out.else_ he12 k11)
        have sz14 := he12.2.2.2.1
        clear he12 k11
        obtain ⟨ci16, hc17⟩ := HD13.out.cur
        go_wp2_with fail
        go_at_call 82
        refine (below_any C a n cp ci16 (9) _ hc17 (by omega)).mono ?_
        rintro e w15 ⟨⟨t, rfl, t0, t1, t2⟩, k18, he19⟩
        clear hc17
        have HD20 := Lib.hid (HD13.out.else_ he19 k18)
        have sz21 := he19.2.2.2.1
        clear he19 k18
        have t3 := t1 (by omega)
        have q3 := q1 (by omega)
        have p3 := p1 (by omega)
        have em : IntKind.i64.wrap (m - 1) = m - 1 := IntWalk.i64_in _ (by omega)
        clear t1 t2 q1 q2 p1 p2
        go_wp2_with fail
        obtain ⟨w27, hw28⟩ : ∃ qq, qq = w15.alloc (.cells #[.int .i64 1, .int .i64 1, .int .i64 2, .int .i64 2, .int .i64 3, .int .i64 5, .int .i64 (1 + t), .int .i64 1000] 3) := ⟨_, rfl⟩
        have hb29 : Below w15.heap.size w15 w27 := by rw [hw28]; exact (Below.refl _ _).alloc (Nat.le_refl _) _
        have sz30 : w27.heap.size = w15.heap.size + 1 := by rw [hw28]; simp
        have HD31 := Lib.hid (HD20.out.grow hb29)
        have sz32 := hb29.size
        clear hb29
        have hLst : ListAt w27 w15.heap.size [1, 1, 2, 2, 3, 5, 1 + t, 1000] := ⟨by omega, fun x z hz => by
          rw [hw28]
          have hx : x < 8 := by obtain ⟨h, _⟩ := List.getElem?_eq_some_iff.1 hz; simpa using h
          have : x = 0 ∨ x = 1 ∨ x = 2 ∨ x = 3 ∨ x = 4 ∨ x = 5 ∨ x = 6 ∨ x = 7 := by omega
          rcases this with rfl | rfl | rfl | rfl | rfl | rfl | rfl | rfl <;> (simp at hz; subst hz; simp)⟩
        rw [← hw28]
        clear hw28
        obtain ⟨ci23, hc24⟩ := HD31.out.cur
        go_at_call 81
        refine (pick_any C a n cp ci23 w15.heap.size 8 8 [1, 1, 2, 2, 3, 5, 1 + t, 1000] _ hc24 (by omega) (by omega) rfl hLst (by omega)).mono ?_
        rintro e w22 ⟨⟨r, rfl, _⟩, k25, he26⟩
        clear hc24 hLst
        have HD33 := Lib.hid (HD31.out.else_ he26 k25)
        have sz34 := he26.2.2.2.1
        clear he26 k25
        obtain ⟨w35, hw36⟩ : ∃ qq, qq = w22.alloc (.cells #[.int .i64 p, .int .i64 q, .int .i64 r] 96) := ⟨_, rfl⟩
        have hb37 : Below w22.heap.size w22 w35 := by rw [hw36]; exact (Below.refl _ _).alloc (Nat.le_refl _) _
        have sz38 : w35.heap.size = w22.heap.size + 1 := by rw [hw36]; simp
        have HD39 := Lib.hid (HD33.out.grow hb37)
        have sz40 := hb37.size
        clear hb37
        have f41 : w35.cell? ⟨w22.heap.size, 0, none⟩ = some (.int .i64 p) := by rw [hw36]; simp
        have f42 : w35.cell? ⟨w22.heap.size, 1, none⟩ = some (.int .i64 q) := by rw [hw36]; simp
        have f43 : w35.cell? ⟨w22.heap.size, 2, none⟩ = some (.int .i64 r) := by rw [hw36]; simp
        have fz44 : w35.frozen? ⟨w22.heap.size, 0, none⟩ = false := by rw [hw36]; simp
        have fz45 : w35.frozen? ⟨w22.heap.size, 1, none⟩ = false := by rw [hw36]; simp
        by_cases hk3 : (k : Int) < m - 1
        · have d3 : decide ((k : Int) < m - 1) = true := decide_eq_true hk3
          obtain ⟨ci46, hc47⟩ := HD39.out.cur
          go_wp2_with fail
          rw [← hw36]
          clear hw36
          go_at_call 82
          refine (below_any C a n cp ci46 3 _ hc47 (by omega)).mono ?_
          rintro e w50 ⟨⟨y, rfl, y0, y1, y2⟩, k48, he49⟩
          clear hc47 y1 y2
          have fz51 : w50.frozen? ⟨w22.heap.size, 0, none⟩ = false := by rw [World.frozen?_of_block (w := w35) (a := ⟨w22.heap.size, 0, none⟩) (he49.2.2.2.2 (w22.heap.size) (by omega) (by omega))]; exact fz44
          have fz52 : w50.frozen? ⟨w22.heap.size, 1, none⟩ = false := by rw [World.frozen?_of_block (w := w35) (a := ⟨w22.heap.size, 1, none⟩) (he49.2.2.2.2 (w22.heap.size) (by omega) (by omega))]; exact fz45
          clear fz44 fz45
          have HD53 := Lib.hid (HD39.out.else_ he49 k48)
          have sz54 := he49.2.2.2.1
          have f55 : w50.cell? ⟨w22.heap.size, 0, none⟩ = some (.int .i64 p) := by
            rw [World.cell?_of_block (w := w35) (a := ⟨w22.heap.size, 0, none⟩) (he49.2.2.2.2 (w22.heap.size) (by omega) (by omega))]; exact f41
          have f56 : w50.cell? ⟨w22.heap.size, 1, none⟩ = some (.int .i64 q) := by
            rw [World.cell?_of_block (w := w35) (a := ⟨w22.heap.size, 1, none⟩) (he49.2.2.2.2 (w22.heap.size) (by omega) (by omega))]; exact f42
          have f57 : w50.cell? ⟨w22.heap.size, 2, none⟩ = some (.int .i64 r) := by
            rw [World.cell?_of_block (w := w35) (a := ⟨w22.heap.size, 2, none⟩) (he49.2.2.2.2 (w22.heap.size) (by omega) (by omega))]; exact f43
          clear f41 f42 f43
          clear he49 k48
          by_cases hy : 0 < y
          · have dy : decide (0 < y) = true := decide_eq_true hy
            clear hy
            have o61 := HD53.out.ord
            have hH62 := HD53.out.hH
            obtain ⟨w59, hw58⟩ : ∃ qq, qq = ((w50.setCell ⟨w22.heap.size, 0, none⟩ (.int .i64 (k : Int))).setCell ⟨w22.heap.size, 1, none⟩ (.int .i64 ((k : Int) + 1))) := ⟨_, rfl⟩
            have HD60 : Hid (DgS w w59 C a n cp m w.heap.size (w.heap.size + 1) H (.slice ga L'.length gc) L') := by rw [hw58]; exact (HD53.out.box (by omega) (by omega)).box (by omega) (by omega)
            have sz63 : w59.heap.size = w50.heap.size := by rw [hw58]; simp [World.setCell]
            have f64' : (w50.setCell ⟨w22.heap.size, 0, none⟩ (.int .i64 (k : Int))).cell? ⟨w22.heap.size, 1, none⟩ = some (.int .i64 q) := by rw [World.cell?_setCell_other _ _ _ _ (by simp)]; exact f56
            have f64 : w59.cell? ⟨w22.heap.size, 0, none⟩ = some (.int .i64 (k : Int)) := by rw [hw58, World.cell?_setCell_other _ _ _ _ (by simp)]; exact World.cell?_setCell_same _ _ _ f55
            have f65 : w59.cell? ⟨w22.heap.size, 1, none⟩ = some (.int .i64 ((k : Int) + 1)) := by rw [hw58]; exact World.cell?_setCell_same _ _ _ f64'
            have f66 : w59.cell? ⟨w22.heap.size, 2, none⟩ = some (.int .i64 r) := by rw [hw58, World.cell?_setCell_other _ _ _ _ (by simp), World.cell?_setCell_other _ _ _ _ (by simp)]; exact f57
            have hx1e := HD60.out.x1
            rw [hw58] at hx1e
            have ek1 : IntKind.i64.wrap ((k : Int) + 1) = (k : Int) + 1 := IntWalk.i64_in _ (by omega)
            have dpq : ((k : Int) == (k : Int) + 1) = false := by simp; omega
            by_cases hl9 : (L'.length : Int) < 59
            · obtain ⟨lo68, hr69, hx70⟩ := HD60.out.row
              have hH79 := HD60.out.hH
              have x80 := HD60.out.x1
              have o81 := HD60.out.ord
              have ll82 := HD60.out.len
              go_wp2_with fail
              rw [← hw58]
              go_at_call 117
              refine (put_any lo68 H (L'.length) _ L' _ _ _ _ rfl hr69.row hH79 (by omega)).mono ?_
              rintro e w67 ⟨rv71, L72, rfl, h73, hl74, hb75⟩
              obtain ⟨ra76, rc77, hv78⟩ := h73.slice
              subst hv78
              clear x80
              have HD83 := Lib.hid (HD60.out.grow hb75)
              have sz84 := hb75.size
              have f85 : w67.cell? ⟨w22.heap.size, 0, none⟩ = some (.int .i64 (k : Int)) := by
                rw [hb75.cell (p := ⟨w22.heap.size, 0, none⟩) (by show w22.heap.size < _; omega)]; exact f64
              have f86 : w67.cell? ⟨w22.heap.size, 1, none⟩ = some (.int .i64 ((k : Int) + 1)) := by
                rw [hb75.cell (p := ⟨w22.heap.size, 1, none⟩) (by show w22.heap.size < _; omega)]; exact f65
              have f87 : w67.cell? ⟨w22.heap.size, 2, none⟩ = some (.int .i64 r) := by
                rw [hb75.cell (p := ⟨w22.heap.size, 2, none⟩) (by show w22.heap.size < _; omega)]; exact f66
              clear f64 f65 f66
              have xf89 := HD83.out.xf 1
              have x90 := HD83.out.x1
              have HD88 := Lib.hid (HD83.out.edges h73 (by omega) (by omega))
              clear h73 hr69
              go_wp2_with fail
              obtain ⟨w91, hw92⟩ : ∃ qq, qq = (w67.setCell ⟨(w.heap.size + 1), 1, none⟩ (.slice ra76 L72.length rc77)) := ⟨_, rfl⟩
              have f93 : w91.cell? ⟨w22.heap.size, 0, none⟩ = some (.int .i64 (k : Int)) := by rw [hw92, World.cell?_setCell_other _ _ _ _ (by simp <;> omega)]; exact f85
              have f94 : w91.cell? ⟨w22.heap.size, 1, none⟩ = some (.int .i64 ((k : Int) + 1)) := by rw [hw92, World.cell?_setCell_other _ _ _ _ (by simp <;> omega)]; exact f86
              have f95 : w91.cell? ⟨w22.heap.size, 2, none⟩ = some (.int .i64 r) := by rw [hw92, World.cell?_setCell_other _ _ _ _ (by simp <;> omega)]; exact f87
              rw [← hw92] at HD88
              have sz96 : w91.heap.size = w67.heap.size := by rw [hw92]; simp [World.setCell]
              clear f85 f86 f87
              rw [← hw92]
              obtain ⟨ci99, hc100⟩ := HD88.out.cur
              go_at_call 82
              refine (below_any C a n cp ci99 (4) _ hc100 (by omega)).mono ?_
              rintro e w98 ⟨⟨v97, rfl, v970, v971, v972⟩, k101, he102⟩
              clear hc100
              have HD103 := Lib.hid (HD88.out.else_ he102 k101)
              have sz104 := he102.2.2.2.1
              have f105 : w98.cell? ⟨w22.heap.size, 0, none⟩ = some (.int .i64 (k : Int)) := by
                rw [World.cell?_of_block (w := w91) (a := ⟨w22.heap.size, 0, none⟩) (he102.2.2.2.2 (w22.heap.size) (by omega) (by omega))]; exact f93
              have f106 : w98.cell? ⟨w22.heap.size, 1, none⟩ = some (.int .i64 ((k : Int) + 1)) := by
                rw [World.cell?_of_block (w := w91) (a := ⟨w22.heap.size, 1, none⟩) (he102.2.2.2.2 (w22.heap.size) (by omega) (by omega))]; exact f94
              have f107 : w98.cell? ⟨w22.heap.size, 2, none⟩ = some (.int .i64 r) := by
                rw [World.cell?_of_block (w := w91) (a := ⟨w22.heap.size, 2, none⟩) (he102.2.2.2.2 (w22.heap.size) (by omega) (by omega))]; exact f95
              clear f93 f94 f95
              clear he102 k101
              by_cases hv9 : 0 < v97
              · have dv : decide (0 < v97) = true := decide_eq_true hv9
                clear hv9
                obtain ⟨w108, hw109⟩ : ∃ qq, qq = w98.alloc (.cells #[.int .i64 ((k : Int) + 1), .int .i64 (k : Int), .int .i64 r] 96) := ⟨_, rfl⟩
                have hb110 : Below w98.heap.size w98 w108 := by rw [hw109]; exact (Below.refl _ _).alloc (Nat.le_refl _) _
                have sz111 : w108.heap.size = w98.heap.size + 1 := by rw [hw109]; simp
                have HD112 := Lib.hid (HD103.out.grow hb110)
                have sz113 := hb110.size
                have f114 : w108.cell? ⟨w22.heap.size, 0, none⟩ = some (.int .i64 (k : Int)) := by
                  rw [hb110.cell (p := ⟨w22.heap.size, 0, none⟩) (by show w22.heap.size < _; omega)]; exact f105
                have f115 : w108.cell? ⟨w22.heap.size, 1, none⟩ = some (.int .i64 ((k : Int) + 1)) := by
                  rw [hb110.cell (p := ⟨w22.heap.size, 1, none⟩) (by show w22.heap.size < _; omega)]; exact f106
                have f116 : w108.cell? ⟨w22.heap.size, 2, none⟩ = some (.int .i64 r) := by
                  rw [hb110.cell (p := ⟨w22.heap.size, 2, none⟩) (by show w22.heap.size < _; omega)]; exact f107
                clear f105 f106 f107
                clear hb110
                have f117 : w108.cell? ⟨w98.heap.size, 0, none⟩ = some (.int .i64 ((k : Int) + 1)) := by rw [hw109]; simp
                have f118 : w108.cell? ⟨w98.heap.size, 1, none⟩ = some (.int .i64 (k : Int)) := by rw [hw109]; simp
                have f119 : w108.cell? ⟨w98.heap.size, 2, none⟩ = some (.int .i64 r) := by rw [hw109]; simp
                have fz120 : w108.frozen? ⟨w98.heap.size, 2, none⟩ = false := by rw [hw109]; simp
                have hE0 : w98.cell? ⟨w22.heap.size, 0, none⟩ = some (.int .i64 (k : Int)) := by have := f114; rw [hw109, old_box (by omega)] at this; exact this
                have hE1 : w98.cell? ⟨w22.heap.size, 1, none⟩ = some (.int .i64 ((k : Int) + 1)) := by have := f115; rw [hw109, old_box (by omega)] at this; exact this
                have hE2 : w98.cell? ⟨w22.heap.size, 2, none⟩ = some (.int .i64 r) := by have := f116; rw [hw109, old_box (by omega)] at this; exact this
                obtain ⟨ci121, hc122⟩ := HD112.out.cur
                go_wp2_with fail
                rw [← hw109]
                clear hw109 hE0 hE1 hE2
                go_at_call 94
                refine (once_any C a n cp ci121 4 _ hc122 (by omega)).mono ?_
                rintro e w125 ⟨⟨tb126, rfl⟩, k123, he124⟩
                clear hc122
                have fz127 : w125.frozen? ⟨w98.heap.size, 2, none⟩ = false := by rw [World.frozen?_of_block (w := w108) (a := ⟨w98.heap.size, 2, none⟩) (he124.2.2.2.2 (w98.heap.size) (by omega) (by omega))]; exact fz120
                have HD128 := Lib.hid (HD112.out.else_ he124 k123)
                have sz129 := he124.2.2.2.1
                have f130 : w125.cell? ⟨w22.heap.size, 0, none⟩ = some (.int .i64 (k : Int)) := by
                  rw [World.cell?_of_block (w := w108) (a := ⟨w22.heap.size, 0, none⟩) (he124.2.2.2.2 (w22.heap.size) (by omega) (by omega))]; exact f114
                have f131 : w125.cell? ⟨w22.heap.size, 1, none⟩ = some (.int .i64 ((k : Int) + 1)) := by
                  rw [World.cell?_of_block (w := w108) (a := ⟨w22.heap.size, 1, none⟩) (he124.2.2.2.2 (w22.heap.size) (by omega) (by omega))]; exact f115
                have f132 : w125.cell? ⟨w22.heap.size, 2, none⟩ = some (.int .i64 r) := by
                  rw [World.cell?_of_block (w := w108) (a := ⟨w22.heap.size, 2, none⟩) (he124.2.2.2.2 (w22.heap.size) (by omega) (by omega))]; exact f116
                have f133 : w125.cell? ⟨w98.heap.size, 0, none⟩ = some (.int .i64 ((k : Int) + 1)) := by
                  rw [World.cell?_of_block (w := w108) (a := ⟨w98.heap.size, 0, none⟩) (he124.2.2.2.2 (w98.heap.size) (by omega) (by omega))]; exact f117
                have f134 : w125.cell? ⟨w98.heap.size, 1, none⟩ = some (.int .i64 (k : Int)) := by
                  rw [World.cell?_of_block (w := w108) (a := ⟨w98.heap.size, 1, none⟩) (he124.2.2.2.2 (w98.heap.size) (by omega) (by omega))]; exact f118
                have f135 : w125.cell? ⟨w98.heap.size, 2, none⟩ = some (.int .i64 r) := by
                  rw [World.cell?_of_block (w := w108) (a := ⟨w98.heap.size, 2, none⟩) (he124.2.2.2.2 (w98.heap.size) (by omega) (by omega))]; exact f119
                clear f114 f115 f116 f117 f118 f119
                clear he124 k123
                clear fz120
                cases tb126
                · clear fz127
                  obtain ⟨lo137, hr138, hx139⟩ := HD128.out.row
                  have hH148 := HD128.out.hH
                  have x149 := HD128.out.x1
                  have o150 := HD128.out.ord
                  have ll151 := HD128.out.len
                  go_wp2_with fail
                  go_at_call 117
                  refine (put_any lo137 w67.heap.size (L72.length) _ L72 _ _ _ _ rfl hr138.row hH148 (by omega)).mono ?_
                  rintro e w136 ⟨rv140, L141, rfl, h142, hl143, hb144⟩
                  obtain ⟨ra145, rc146, hv147⟩ := h142.slice
                  subst hv147
                  clear x149
                  have HD152 := Lib.hid (HD128.out.grow hb144)
                  have sz153 := hb144.size
                  have f154 : w136.cell? ⟨w22.heap.size, 0, none⟩ = some (.int .i64 (k : Int)) := by
                    rw [hb144.cell (p := ⟨w22.heap.size, 0, none⟩) (by show w22.heap.size < _; omega)]; exact f130
                  have f155 : w136.cell? ⟨w22.heap.size, 1, none⟩ = some (.int .i64 ((k : Int) + 1)) := by
                    rw [hb144.cell (p := ⟨w22.heap.size, 1, none⟩) (by show w22.heap.size < _; omega)]; exact f131
                  have f156 : w136.cell? ⟨w22.heap.size, 2, none⟩ = some (.int .i64 r) := by
                    rw [hb144.cell (p := ⟨w22.heap.size, 2, none⟩) (by show w22.heap.size < _; omega)]; exact f132
                  have f157 : w136.cell? ⟨w98.heap.size, 0, none⟩ = some (.int .i64 ((k : Int) + 1)) := by
                    rw [hb144.cell (p := ⟨w98.heap.size, 0, none⟩) (by show w98.heap.size < _; omega)]; exact f133
                  have f158 : w136.cell? ⟨w98.heap.size, 1, none⟩ = some (.int .i64 (k : Int)) := by
                    rw [hb144.cell (p := ⟨w98.heap.size, 1, none⟩) (by show w98.heap.size < _; omega)]; exact f134
                  have f159 : w136.cell? ⟨w98.heap.size, 2, none⟩ = some (.int .i64 r) := by
                    rw [hb144.cell (p := ⟨w98.heap.size, 2, none⟩) (by show w98.heap.size < _; omega)]; exact f135
                  clear f130 f131 f132 f133 f134 f135
                  have xf161 := HD152.out.xf 1
                  have x162 := HD152.out.x1
                  have HD160 := Lib.hid (HD152.out.edges h142 (by omega) (by omega))
                  clear h142 hr138
                  go_wp2_with fail
                  go_roundw
                  case rel => exact ⟨k + 1, _, L141, w136.heap.size, by omega, by go_num, HD160⟩
                  case measure => simp [intOf]; omega
                · obtain ⟨ci164, hc165⟩ := HD128.out.cur
                  go_wp2_with fail
                  go_at_call 82
                  refine (below_any C a n cp ci164 6 _ hc165 (by omega)).mono ?_
                  rintro e w168 ⟨⟨u163, rfl, u1630, u1631, u1632⟩, k166, he167⟩
                  clear hc165
                  have fz169 : w168.frozen? ⟨w98.heap.size, 2, none⟩ = false := by rw [World.frozen?_of_block (w := w125) (a := ⟨w98.heap.size, 2, none⟩) (he167.2.2.2.2 (w98.heap.size) (by omega) (by omega))]; exact fz127
                  have HD170 := Lib.hid (HD128.out.else_ he167 k166)
                  have sz171 := he167.2.2.2.1
                  have f172 : w168.cell? ⟨w22.heap.size, 0, none⟩ = some (.int .i64 (k : Int)) := by
                    rw [World.cell?_of_block (w := w125) (a := ⟨w22.heap.size, 0, none⟩) (he167.2.2.2.2 (w22.heap.size) (by omega) (by omega))]; exact f130
                  have f173 : w168.cell? ⟨w22.heap.size, 1, none⟩ = some (.int .i64 ((k : Int) + 1)) := by
                    rw [World.cell?_of_block (w := w125) (a := ⟨w22.heap.size, 1, none⟩) (he167.2.2.2.2 (w22.heap.size) (by omega) (by omega))]; exact f131
                  have f174 : w168.cell? ⟨w22.heap.size, 2, none⟩ = some (.int .i64 r) := by
                    rw [World.cell?_of_block (w := w125) (a := ⟨w22.heap.size, 2, none⟩) (he167.2.2.2.2 (w22.heap.size) (by omega) (by omega))]; exact f132
                  have f175 : w168.cell? ⟨w98.heap.size, 0, none⟩ = some (.int .i64 ((k : Int) + 1)) := by
                    rw [World.cell?_of_block (w := w125) (a := ⟨w98.heap.size, 0, none⟩) (he167.2.2.2.2 (w98.heap.size) (by omega) (by omega))]; exact f133
                  have f176 : w168.cell? ⟨w98.heap.size, 1, none⟩ = some (.int .i64 (k : Int)) := by
                    rw [World.cell?_of_block (w := w125) (a := ⟨w98.heap.size, 1, none⟩) (he167.2.2.2.2 (w98.heap.size) (by omega) (by omega))]; exact f134
                  have f177 : w168.cell? ⟨w98.heap.size, 2, none⟩ = some (.int .i64 r) := by
                    rw [World.cell?_of_block (w := w125) (a := ⟨w98.heap.size, 2, none⟩) (he167.2.2.2.2 (w98.heap.size) (by omega) (by omega))]; exact f135
                  clear f130 f131 f132 f133 f134 f135
                  clear he167 k166
                  clear fz127
                  have u1633 := u1631 (by omega)
                  clear u1631 u1632
                  have hH181 := HD170.out.hH
                  have o182 := HD170.out.ord
                  have HD180 : Hid (DgS w (w168.setCell ⟨w98.heap.size, 2, none⟩ (.int .i64 (1 + u163))) C a n cp m w.heap.size (w.heap.size + 1) w67.heap.size (.slice ra76 L72.length rc77) L72) := HD170.out.box (by omega) (by omega)
                  have hB0 : (w168.setCell ⟨w98.heap.size, 2, none⟩ (.int .i64 (1 + u163))).cell? ⟨w98.heap.size, 0, none⟩ = some (.int .i64 ((k : Int) + 1)) := by rw [World.cell?_setCell_other _ _ _ _ (by simp)]; exact f175
                  have hB1 : (w168.setCell ⟨w98.heap.size, 2, none⟩ (.int .i64 (1 + u163))).cell? ⟨w98.heap.size, 1, none⟩ = some (.int .i64 (k : Int)) := by rw [World.cell?_setCell_other _ _ _ _ (by simp)]; exact f176
                  have hB2 : (w168.setCell ⟨w98.heap.size, 2, none⟩ (.int .i64 (1 + u163))).cell? ⟨w98.heap.size, 2, none⟩ = some (.int .i64 (1 + u163)) := World.cell?_setCell_same _ _ _ f177
                  have sz183 : (w168.setCell ⟨w98.heap.size, 2, none⟩ (.int .i64 (1 + u163))).heap.size = w168.heap.size := by simp [World.setCell]
                  obtain ⟨lo185, hr186, hx187⟩ := HD180.out.row
                  have hH196 := HD180.out.hH
                  have x197 := HD180.out.x1
                  have o198 := HD180.out.ord
                  have ll199 := HD180.out.len
                  go_wp2_with fail
                  go_at_call 117
                  refine (put_any lo185 w67.heap.size (L72.length) _ L72 _ _ _ _ rfl hr186.row hH196 (by omega)).mono ?_
                  rintro e w184 ⟨rv188, L189, rfl, h190, hl191, hb192⟩
                  obtain ⟨ra193, rc194, hv195⟩ := h190.slice
                  subst hv195
                  clear x197
                  have HD200 := Lib.hid (HD180.out.grow hb192)
                  have sz201 := hb192.size
                  have xf203 := HD200.out.xf 1
                  have x204 := HD200.out.x1
                  have HD202 := Lib.hid (HD200.out.edges h190 (by omega) (by omega))
                  clear h190 hr186
                  go_wp2_with fail
                  go_roundw
                  case rel => exact ⟨k + 1, _, L189, w184.heap.size, by omega, by go_num, HD202⟩
                  case measure => simp [intOf]; omega
              · have dv : decide (0 < v97) = false := decide_eq_false hv9
                clear hv9
                go_wp2_with fail
                go_roundw
                case rel => exact ⟨k + 1, _, L72, w67.heap.size, by omega, by go_num, HD103⟩
                case measure => simp [intOf]; omega
            · have x205 := HD60.out.x1
              go_wp2_with fail
              rw [← hw58]
              go_roundw
              case rel => exact ⟨k + 1, _, L', H, by omega, by go_num, HD60⟩
              case measure => simp [intOf]; omega
          · have dy : decide (0 < y) = false := decide_eq_false hy
            clear hy fz51 fz52
            by_cases hpq : p = q
            · have dpq : (p == q) = true := by simp [hpq]
              clear hpq
              have x206 := HD53.out.x1
              go_wp2_with fail
              go_roundw
              case rel => exact ⟨k + 1, _, L', H, by omega, by go_num, HD53⟩
              case measure => simp [intOf]; omega
            · have dpq : (p == q) = false := by simp [hpq]
              clear hpq
              by_cases hl9 : (L'.length : Int) < 59
              · obtain ⟨lo208, hr209, hx210⟩ := HD53.out.row
                have hH219 := HD53.out.hH
                have x220 := HD53.out.x1
                have o221 := HD53.out.ord
                have ll222 := HD53.out.len
                go_wp2_with fail
                go_at_call 117
                refine (put_any lo208 H (L'.length) _ L' _ _ _ _ rfl hr209.row hH219 (by omega)).mono ?_
                rintro e w207 ⟨rv211, L212, rfl, h213, hl214, hb215⟩
                obtain ⟨ra216, rc217, hv218⟩ := h213.slice
                subst hv218
                clear x220
                have HD223 := Lib.hid (HD53.out.grow hb215)
                have sz224 := hb215.size
                have f225 : w207.cell? ⟨w22.heap.size, 0, none⟩ = some (.int .i64 p) := by
                  rw [hb215.cell (p := ⟨w22.heap.size, 0, none⟩) (by show w22.heap.size < _; omega)]; exact f55
                have f226 : w207.cell? ⟨w22.heap.size, 1, none⟩ = some (.int .i64 q) := by
                  rw [hb215.cell (p := ⟨w22.heap.size, 1, none⟩) (by show w22.heap.size < _; omega)]; exact f56
                have f227 : w207.cell? ⟨w22.heap.size, 2, none⟩ = some (.int .i64 r) := by
                  rw [hb215.cell (p := ⟨w22.heap.size, 2, none⟩) (by show w22.heap.size < _; omega)]; exact f57
                clear f55 f56 f57
                have xf229 := HD223.out.xf 1
                have x230 := HD223.out.x1
                have HD228 := Lib.hid (HD223.out.edges h213 (by omega) (by omega))
                clear h213 hr209
                go_wp2_with fail
                obtain ⟨w231, hw232⟩ : ∃ qq, qq = (w207.setCell ⟨(w.heap.size + 1), 1, none⟩ (.slice ra216 L212.length rc217)) := ⟨_, rfl⟩
                have f233 : w231.cell? ⟨w22.heap.size, 0, none⟩ = some (.int .i64 p) := by rw [hw232, World.cell?_setCell_other _ _ _ _ (by simp <;> omega)]; exact f225
                have f234 : w231.cell? ⟨w22.heap.size, 1, none⟩ = some (.int .i64 q) := by rw [hw232, World.cell?_setCell_other _ _ _ _ (by simp <;> omega)]; exact f226
                have f235 : w231.cell? ⟨w22.heap.size, 2, none⟩ = some (.int .i64 r) := by rw [hw232, World.cell?_setCell_other _ _ _ _ (by simp <;> omega)]; exact f227
                rw [← hw232] at HD228
                have sz236 : w231.heap.size = w207.heap.size := by rw [hw232]; simp [World.setCell]
                clear f225 f226 f227
                rw [← hw232]
                obtain ⟨ci239, hc240⟩ := HD228.out.cur
                go_at_call 82
                refine (below_any C a n cp ci239 (4) _ hc240 (by omega)).mono ?_
                rintro e w238 ⟨⟨v237, rfl, v2370, v2371, v2372⟩, k241, he242⟩
                clear hc240
                have HD243 := Lib.hid (HD228.out.else_ he242 k241)
                have sz244 := he242.2.2.2.1
                have f245 : w238.cell? ⟨w22.heap.size, 0, none⟩ = some (.int .i64 p) := by
                  rw [World.cell?_of_block (w := w231) (a := ⟨w22.heap.size, 0, none⟩) (he242.2.2.2.2 (w22.heap.size) (by omega) (by omega))]; exact f233
                have f246 : w238.cell? ⟨w22.heap.size, 1, none⟩ = some (.int .i64 q) := by
                  rw [World.cell?_of_block (w := w231) (a := ⟨w22.heap.size, 1, none⟩) (he242.2.2.2.2 (w22.heap.size) (by omega) (by omega))]; exact f234
                have f247 : w238.cell? ⟨w22.heap.size, 2, none⟩ = some (.int .i64 r) := by
                  rw [World.cell?_of_block (w := w231) (a := ⟨w22.heap.size, 2, none⟩) (he242.2.2.2.2 (w22.heap.size) (by omega) (by omega))]; exact f235
                clear f233 f234 f235
                clear he242 k241
                by_cases hv9 : 0 < v237
                · have dv : decide (0 < v237) = true := decide_eq_true hv9
                  clear hv9
                  obtain ⟨w248, hw249⟩ : ∃ qq, qq = w238.alloc (.cells #[.int .i64 q, .int .i64 p, .int .i64 r] 96) := ⟨_, rfl⟩
                  have hb250 : Below w238.heap.size w238 w248 := by rw [hw249]; exact (Below.refl _ _).alloc (Nat.le_refl _) _
                  have sz251 : w248.heap.size = w238.heap.size + 1 := by rw [hw249]; simp
                  have HD252 := Lib.hid (HD243.out.grow hb250)
                  have sz253 := hb250.size
                  have f254 : w248.cell? ⟨w22.heap.size, 0, none⟩ = some (.int .i64 p) := by
                    rw [hb250.cell (p := ⟨w22.heap.size, 0, none⟩) (by show w22.heap.size < _; omega)]; exact f245
                  have f255 : w248.cell? ⟨w22.heap.size, 1, none⟩ = some (.int .i64 q) := by
                    rw [hb250.cell (p := ⟨w22.heap.size, 1, none⟩) (by show w22.heap.size < _; omega)]; exact f246
                  have f256 : w248.cell? ⟨w22.heap.size, 2, none⟩ = some (.int .i64 r) := by
                    rw [hb250.cell (p := ⟨w22.heap.size, 2, none⟩) (by show w22.heap.size < _; omega)]; exact f247
                  clear f245 f246 f247
                  clear hb250
                  have f257 : w248.cell? ⟨w238.heap.size, 0, none⟩ = some (.int .i64 q) := by rw [hw249]; simp
                  have f258 : w248.cell? ⟨w238.heap.size, 1, none⟩ = some (.int .i64 p) := by rw [hw249]; simp
                  have f259 : w248.cell? ⟨w238.heap.size, 2, none⟩ = some (.int .i64 r) := by rw [hw249]; simp
                  have fz260 : w248.frozen? ⟨w238.heap.size, 2, none⟩ = false := by rw [hw249]; simp
                  have hE0 : w238.cell? ⟨w22.heap.size, 0, none⟩ = some (.int .i64 p) := by have := f254; rw [hw249, old_box (by omega)] at this; exact this
                  have hE1 : w238.cell? ⟨w22.heap.size, 1, none⟩ = some (.int .i64 q) := by have := f255; rw [hw249, old_box (by omega)] at this; exact this
                  have hE2 : w238.cell? ⟨w22.heap.size, 2, none⟩ = some (.int .i64 r) := by have := f256; rw [hw249, old_box (by omega)] at this; exact this
                  obtain ⟨ci261, hc262⟩ := HD252.out.cur
                  go_wp2_with fail
                  rw [← hw249]
                  clear hw249 hE0 hE1 hE2
                  go_at_call 94
                  refine (once_any C a n cp ci261 4 _ hc262 (by omega)).mono ?_
                  rintro e w265 ⟨⟨tb266, rfl⟩, k263, he264⟩
                  clear hc262
                  have fz267 : w265.frozen? ⟨w238.heap.size, 2, none⟩ = false := by rw [World.frozen?_of_block (w := w248) (a := ⟨w238.heap.size, 2, none⟩) (he264.2.2.2.2 (w238.heap.size) (by omega) (by omega))]; exact fz260
                  have HD268 := Lib.hid (HD252.out.else_ he264 k263)
                  have sz269 := he264.2.2.2.1
                  have f270 : w265.cell? ⟨w22.heap.size, 0, none⟩ = some (.int .i64 p) := by
                    rw [World.cell?_of_block (w := w248) (a := ⟨w22.heap.size, 0, none⟩) (he264.2.2.2.2 (w22.heap.size) (by omega) (by omega))]; exact f254
                  have f271 : w265.cell? ⟨w22.heap.size, 1, none⟩ = some (.int .i64 q) := by
                    rw [World.cell?_of_block (w := w248) (a := ⟨w22.heap.size, 1, none⟩) (he264.2.2.2.2 (w22.heap.size) (by omega) (by omega))]; exact f255
                  have f272 : w265.cell? ⟨w22.heap.size, 2, none⟩ = some (.int .i64 r) := by
                    rw [World.cell?_of_block (w := w248) (a := ⟨w22.heap.size, 2, none⟩) (he264.2.2.2.2 (w22.heap.size) (by omega) (by omega))]; exact f256
                  have f273 : w265.cell? ⟨w238.heap.size, 0, none⟩ = some (.int .i64 q) := by
                    rw [World.cell?_of_block (w := w248) (a := ⟨w238.heap.size, 0, none⟩) (he264.2.2.2.2 (w238.heap.size) (by omega) (by omega))]; exact f257
                  have f274 : w265.cell? ⟨w238.heap.size, 1, none⟩ = some (.int .i64 p) := by
                    rw [World.cell?_of_block (w := w248) (a := ⟨w238.heap.size, 1, none⟩) (he264.2.2.2.2 (w238.heap.size) (by omega) (by omega))]; exact f258
                  have f275 : w265.cell? ⟨w238.heap.size, 2, none⟩ = some (.int .i64 r) := by
                    rw [World.cell?_of_block (w := w248) (a := ⟨w238.heap.size, 2, none⟩) (he264.2.2.2.2 (w238.heap.size) (by omega) (by omega))]; exact f259
                  clear f254 f255 f256 f257 f258 f259
                  clear he264 k263
                  clear fz260
                  cases tb266
                  · clear fz267
                    obtain ⟨lo277, hr278, hx279⟩ := HD268.out.row
                    have hH288 := HD268.out.hH
                    have x289 := HD268.out.x1
                    have o290 := HD268.out.ord
                    have ll291 := HD268.out.len
                    go_wp2_with fail
                    go_at_call 117
                    refine (put_any lo277 w207.heap.size (L212.length) _ L212 _ _ _ _ rfl hr278.row hH288 (by omega)).mono ?_
                    rintro e w276 ⟨rv280, L281, rfl, h282, hl283, hb284⟩
                    obtain ⟨ra285, rc286, hv287⟩ := h282.slice
                    subst hv287
                    clear x289
                    have HD292 := Lib.hid (HD268.out.grow hb284)
                    have sz293 := hb284.size
                    have f294 : w276.cell? ⟨w22.heap.size, 0, none⟩ = some (.int .i64 p) := by
                      rw [hb284.cell (p := ⟨w22.heap.size, 0, none⟩) (by show w22.heap.size < _; omega)]; exact f270
                    have f295 : w276.cell? ⟨w22.heap.size, 1, none⟩ = some (.int .i64 q) := by
                      rw [hb284.cell (p := ⟨w22.heap.size, 1, none⟩) (by show w22.heap.size < _; omega)]; exact f271
                    have f296 : w276.cell? ⟨w22.heap.size, 2, none⟩ = some (.int .i64 r) := by
                      rw [hb284.cell (p := ⟨w22.heap.size, 2, none⟩) (by show w22.heap.size < _; omega)]; exact f272
                    have f297 : w276.cell? ⟨w238.heap.size, 0, none⟩ = some (.int .i64 q) := by
                      rw [hb284.cell (p := ⟨w238.heap.size, 0, none⟩) (by show w238.heap.size < _; omega)]; exact f273
                    have f298 : w276.cell? ⟨w238.heap.size, 1, none⟩ = some (.int .i64 p) := by
                      rw [hb284.cell (p := ⟨w238.heap.size, 1, none⟩) (by show w238.heap.size < _; omega)]; exact f274
                    have f299 : w276.cell? ⟨w238.heap.size, 2, none⟩ = some (.int .i64 r) := by
                      rw [hb284.cell (p := ⟨w238.heap.size, 2, none⟩) (by show w238.heap.size < _; omega)]; exact f275
                    clear f270 f271 f272 f273 f274 f275
                    have xf301 := HD292.out.xf 1
                    have x302 := HD292.out.x1
                    have HD300 := Lib.hid (HD292.out.edges h282 (by omega) (by omega))
                    clear h282 hr278
                    go_wp2_with fail
                    go_roundw
                    case rel => exact ⟨k + 1, _, L281, w276.heap.size, by omega, by go_num, HD300⟩
                    case measure => simp [intOf]; omega
                  · obtain ⟨ci304, hc305⟩ := HD268.out.cur
                    go_wp2_with fail
                    go_at_call 82
                    refine (below_any C a n cp ci304 6 _ hc305 (by omega)).mono ?_
                    rintro e w308 ⟨⟨u303, rfl, u3030, u3031, u3032⟩, k306, he307⟩
                    clear hc305
                    have fz309 : w308.frozen? ⟨w238.heap.size, 2, none⟩ = false := by rw [World.frozen?_of_block (w := w265) (a := ⟨w238.heap.size, 2, none⟩) (he307.2.2.2.2 (w238.heap.size) (by omega) (by omega))]; exact fz267
                    have HD310 := Lib.hid (HD268.out.else_ he307 k306)
                    have sz311 := he307.2.2.2.1
                    have f312 : w308.cell? ⟨w22.heap.size, 0, none⟩ = some (.int .i64 p) := by
                      rw [World.cell?_of_block (w := w265) (a := ⟨w22.heap.size, 0, none⟩) (he307.2.2.2.2 (w22.heap.size) (by omega) (by omega))]; exact f270
                    have f313 : w308.cell? ⟨w22.heap.size, 1, none⟩ = some (.int .i64 q) := by
                      rw [World.cell?_of_block (w := w265) (a := ⟨w22.heap.size, 1, none⟩) (he307.2.2.2.2 (w22.heap.size) (by omega) (by omega))]; exact f271
                    have f314 : w308.cell? ⟨w22.heap.size, 2, none⟩ = some (.int .i64 r) := by
                      rw [World.cell?_of_block (w := w265) (a := ⟨w22.heap.size, 2, none⟩) (he307.2.2.2.2 (w22.heap.size) (by omega) (by omega))]; exact f272
                    have f315 : w308.cell? ⟨w238.heap.size, 0, none⟩ = some (.int .i64 q) := by
                      rw [World.cell?_of_block (w := w265) (a := ⟨w238.heap.size, 0, none⟩) (he307.2.2.2.2 (w238.heap.size) (by omega) (by omega))]; exact f273
                    have f316 : w308.cell? ⟨w238.heap.size, 1, none⟩ = some (.int .i64 p) := by
                      rw [World.cell?_of_block (w := w265) (a := ⟨w238.heap.size, 1, none⟩) (he307.2.2.2.2 (w238.heap.size) (by omega) (by omega))]; exact f274
                    have f317 : w308.cell? ⟨w238.heap.size, 2, none⟩ = some (.int .i64 r) := by
                      rw [World.cell?_of_block (w := w265) (a := ⟨w238.heap.size, 2, none⟩) (he307.2.2.2.2 (w238.heap.size) (by omega) (by omega))]; exact f275
                    clear f270 f271 f272 f273 f274 f275
                    clear he307 k306
                    clear fz267
                    have u3033 := u3031 (by omega)
                    clear u3031 u3032
                    have hH321 := HD310.out.hH
                    have o322 := HD310.out.ord
                    have HD320 : Hid (DgS w (w308.setCell ⟨w238.heap.size, 2, none⟩ (.int .i64 (1 + u303))) C a n cp m w.heap.size (w.heap.size + 1) w207.heap.size (.slice ra216 L212.length rc217) L212) := HD310.out.box (by omega) (by omega)
                    have hB0 : (w308.setCell ⟨w238.heap.size, 2, none⟩ (.int .i64 (1 + u303))).cell? ⟨w238.heap.size, 0, none⟩ = some (.int .i64 q) := by rw [World.cell?_setCell_other _ _ _ _ (by simp)]; exact f315
                    have hB1 : (w308.setCell ⟨w238.heap.size, 2, none⟩ (.int .i64 (1 + u303))).cell? ⟨w238.heap.size, 1, none⟩ = some (.int .i64 p) := by rw [World.cell?_setCell_other _ _ _ _ (by simp)]; exact f316
                    have hB2 : (w308.setCell ⟨w238.heap.size, 2, none⟩ (.int .i64 (1 + u303))).cell? ⟨w238.heap.size, 2, none⟩ = some (.int .i64 (1 + u303)) := World.cell?_setCell_same _ _ _ f317
                    have sz323 : (w308.setCell ⟨w238.heap.size, 2, none⟩ (.int .i64 (1 + u303))).heap.size = w308.heap.size := by simp [World.setCell]
                    obtain ⟨lo325, hr326, hx327⟩ := HD320.out.row
                    have hH336 := HD320.out.hH
                    have x337 := HD320.out.x1
                    have o338 := HD320.out.ord
                    have ll339 := HD320.out.len
                    go_wp2_with fail
                    go_at_call 117
                    refine (put_any lo325 w207.heap.size (L212.length) _ L212 _ _ _ _ rfl hr326.row hH336 (by omega)).mono ?_
                    rintro e w324 ⟨rv328, L329, rfl, h330, hl331, hb332⟩
                    obtain ⟨ra333, rc334, hv335⟩ := h330.slice
                    subst hv335
                    clear x337
                    have HD340 := Lib.hid (HD320.out.grow hb332)
                    have sz341 := hb332.size
                    have xf343 := HD340.out.xf 1
                    have x344 := HD340.out.x1
                    have HD342 := Lib.hid (HD340.out.edges h330 (by omega) (by omega))
                    clear h330 hr326
                    go_wp2_with fail
                    go_roundw
                    case rel => exact ⟨k + 1, _, L329, w324.heap.size, by omega, by go_num, HD342⟩
                    case measure => simp [intOf]; omega
                · have dv : decide (0 < v237) = false := decide_eq_false hv9
                  clear hv9
                  go_wp2_with fail
                  go_roundw
                  case rel => exact ⟨k + 1, _, L212, w207.heap.size, by omega, by go_num, HD243⟩
                  case measure => simp [intOf]; omega
              · have x345 := HD53.out.x1
                go_wp2_with fail
                go_roundw
                case rel => exact ⟨k + 1, _, L', H, by omega, by go_num, HD53⟩
                case measure => simp [intOf]; omega
        · have d3 : decide ((k : Int) < m - 1) = false := decide_eq_false hk3
          clear fz44 fz45
          by_cases hpq : p = q
          · have dpq : (p == q) = true := by simp [hpq]
            clear hpq
            have x346 := HD39.out.x1
            rw [hw36] at x346
            go_wp2_with fail
            rw [← hw36]
            go_roundw
            case rel => exact ⟨k + 1, _, L', H, by omega, by go_num, HD39⟩
            case measure => simp [intOf]; omega
          · have dpq : (p == q) = false := by simp [hpq]
            clear hpq
            by_cases hl9 : (L'.length : Int) < 59
            · obtain ⟨lo348, hr349, hx350⟩ := HD39.out.row
              have hH359 := HD39.out.hH
              have x360 := HD39.out.x1
              have o361 := HD39.out.ord
              have ll362 := HD39.out.len
              have x360e := x360
              rw [hw36] at x360e
              go_wp2_with fail
              rw [← hw36]
              clear hw36 x360e
              go_at_call 117
              refine (put_any lo348 H (L'.length) _ L' _ _ _ _ rfl hr349.row hH359 (by omega)).mono ?_
              rintro e w347 ⟨rv351, L352, rfl, h353, hl354, hb355⟩
              obtain ⟨ra356, rc357, hv358⟩ := h353.slice
              subst hv358
              clear x360
              have HD363 := Lib.hid (HD39.out.grow hb355)
              have sz364 := hb355.size
              have f365 : w347.cell? ⟨w22.heap.size, 0, none⟩ = some (.int .i64 p) := by
                rw [hb355.cell (p := ⟨w22.heap.size, 0, none⟩) (by show w22.heap.size < _; omega)]; exact f41
              have f366 : w347.cell? ⟨w22.heap.size, 1, none⟩ = some (.int .i64 q) := by
                rw [hb355.cell (p := ⟨w22.heap.size, 1, none⟩) (by show w22.heap.size < _; omega)]; exact f42
              have f367 : w347.cell? ⟨w22.heap.size, 2, none⟩ = some (.int .i64 r) := by
                rw [hb355.cell (p := ⟨w22.heap.size, 2, none⟩) (by show w22.heap.size < _; omega)]; exact f43
              clear f41 f42 f43
              have xf369 := HD363.out.xf 1
              have x370 := HD363.out.x1
              have HD368 := Lib.hid (HD363.out.edges h353 (by omega) (by omega))
              clear h353 hr349
              go_wp2_with fail
              obtain ⟨w371, hw372⟩ : ∃ qq, qq = (w347.setCell ⟨(w.heap.size + 1), 1, none⟩ (.slice ra356 L352.length rc357)) := ⟨_, rfl⟩
              have f373 : w371.cell? ⟨w22.heap.size, 0, none⟩ = some (.int .i64 p) := by rw [hw372, World.cell?_setCell_other _ _ _ _ (by simp <;> omega)]; exact f365
              have f374 : w371.cell? ⟨w22.heap.size, 1, none⟩ = some (.int .i64 q) := by rw [hw372, World.cell?_setCell_other _ _ _ _ (by simp <;> omega)]; exact f366
              have f375 : w371.cell? ⟨w22.heap.size, 2, none⟩ = some (.int .i64 r) := by rw [hw372, World.cell?_setCell_other _ _ _ _ (by simp <;> omega)]; exact f367
              rw [← hw372] at HD368
              have sz376 : w371.heap.size = w347.heap.size := by rw [hw372]; simp [World.setCell]
              clear f365 f366 f367
              rw [← hw372]
              obtain ⟨ci379, hc380⟩ := HD368.out.cur
              go_at_call 82
              refine (below_any C a n cp ci379 (4) _ hc380 (by omega)).mono ?_
              rintro e w378 ⟨⟨v377, rfl, v3770, v3771, v3772⟩, k381, he382⟩
              clear hc380
              have HD383 := Lib.hid (HD368.out.else_ he382 k381)
              have sz384 := he382.2.2.2.1
              have f385 : w378.cell? ⟨w22.heap.size, 0, none⟩ = some (.int .i64 p) := by
                rw [World.cell?_of_block (w := w371) (a := ⟨w22.heap.size, 0, none⟩) (he382.2.2.2.2 (w22.heap.size) (by omega) (by omega))]; exact f373
              have f386 : w378.cell? ⟨w22.heap.size, 1, none⟩ = some (.int .i64 q) := by
                rw [World.cell?_of_block (w := w371) (a := ⟨w22.heap.size, 1, none⟩) (he382.2.2.2.2 (w22.heap.size) (by omega) (by omega))]; exact f374
              have f387 : w378.cell? ⟨w22.heap.size, 2, none⟩ = some (.int .i64 r) := by
                rw [World.cell?_of_block (w := w371) (a := ⟨w22.heap.size, 2, none⟩) (he382.2.2.2.2 (w22.heap.size) (by omega) (by omega))]; exact f375
              clear f373 f374 f375
              clear he382 k381
              by_cases hv9 : 0 < v377
              · have dv : decide (0 < v377) = true := decide_eq_true hv9
                clear hv9
                obtain ⟨w388, hw389⟩ : ∃ qq, qq = w378.alloc (.cells #[.int .i64 q, .int .i64 p, .int .i64 r] 96) := ⟨_, rfl⟩
                have hb390 : Below w378.heap.size w378 w388 := by rw [hw389]; exact (Below.refl _ _).alloc (Nat.le_refl _) _
                have sz391 : w388.heap.size = w378.heap.size + 1 := by rw [hw389]; simp
                have HD392 := Lib.hid (HD383.out.grow hb390)
                have sz393 := hb390.size
                have f394 : w388.cell? ⟨w22.heap.size, 0, none⟩ = some (.int .i64 p) := by
                  rw [hb390.cell (p := ⟨w22.heap.size, 0, none⟩) (by show w22.heap.size < _; omega)]; exact f385
                have f395 : w388.cell? ⟨w22.heap.size, 1, none⟩ = some (.int .i64 q) := by
                  rw [hb390.cell (p := ⟨w22.heap.size, 1, none⟩) (by show w22.heap.size < _; omega)]; exact f386
                have f396 : w388.cell? ⟨w22.heap.size, 2, none⟩ = some (.int .i64 r) := by
                  rw [hb390.cell (p := ⟨w22.heap.size, 2, none⟩) (by show w22.heap.size < _; omega)]; exact f387
                clear f385 f386 f387
                clear hb390
                have f397 : w388.cell? ⟨w378.heap.size, 0, none⟩ = some (.int .i64 q) := by rw [hw389]; simp
                have f398 : w388.cell? ⟨w378.heap.size, 1, none⟩ = some (.int .i64 p) := by rw [hw389]; simp
                have f399 : w388.cell? ⟨w378.heap.size, 2, none⟩ = some (.int .i64 r) := by rw [hw389]; simp
                have fz400 : w388.frozen? ⟨w378.heap.size, 2, none⟩ = false := by rw [hw389]; simp
                have hE0 : w378.cell? ⟨w22.heap.size, 0, none⟩ = some (.int .i64 p) := by have := f394; rw [hw389, old_box (by omega)] at this; exact this
                have hE1 : w378.cell? ⟨w22.heap.size, 1, none⟩ = some (.int .i64 q) := by have := f395; rw [hw389, old_box (by omega)] at this; exact this
                have hE2 : w378.cell? ⟨w22.heap.size, 2, none⟩ = some (.int .i64 r) := by have := f396; rw [hw389, old_box (by omega)] at this; exact this
                obtain ⟨ci401, hc402⟩ := HD392.out.cur
                go_wp2_with fail
                rw [← hw389]
                clear hw389 hE0 hE1 hE2
                go_at_call 94
                refine (once_any C a n cp ci401 4 _ hc402 (by omega)).mono ?_
                rintro e w405 ⟨⟨tb406, rfl⟩, k403, he404⟩
                clear hc402
                have fz407 : w405.frozen? ⟨w378.heap.size, 2, none⟩ = false := by rw [World.frozen?_of_block (w := w388) (a := ⟨w378.heap.size, 2, none⟩) (he404.2.2.2.2 (w378.heap.size) (by omega) (by omega))]; exact fz400
                have HD408 := Lib.hid (HD392.out.else_ he404 k403)
                have sz409 := he404.2.2.2.1
                have f410 : w405.cell? ⟨w22.heap.size, 0, none⟩ = some (.int .i64 p) := by
                  rw [World.cell?_of_block (w := w388) (a := ⟨w22.heap.size, 0, none⟩) (he404.2.2.2.2 (w22.heap.size) (by omega) (by omega))]; exact f394
                have f411 : w405.cell? ⟨w22.heap.size, 1, none⟩ = some (.int .i64 q) := by
                  rw [World.cell?_of_block (w := w388) (a := ⟨w22.heap.size, 1, none⟩) (he404.2.2.2.2 (w22.heap.size) (by omega) (by omega))]; exact f395
                have f412 : w405.cell? ⟨w22.heap.size, 2, none⟩ = some (.int .i64 r) := by
                  rw [World.cell?_of_block (w := w388) (a := ⟨w22.heap.size, 2, none⟩) (he404.2.2.2.2 (w22.heap.size) (by omega) (by omega))]; exact f396
                have f413 : w405.cell? ⟨w378.heap.size, 0, none⟩ = some (.int .i64 q) := by
                  rw [World.cell?_of_block (w := w388) (a := ⟨w378.heap.size, 0, none⟩) (he404.2.2.2.2 (w378.heap.size) (by omega) (by omega))]; exact f397
                have f414 : w405.cell? ⟨w378.heap.size, 1, none⟩ = some (.int .i64 p) := by
                  rw [World.cell?_of_block (w := w388) (a := ⟨w378.heap.size, 1, none⟩) (he404.2.2.2.2 (w378.heap.size) (by omega) (by omega))]; exact f398
                have f415 : w405.cell? ⟨w378.heap.size, 2, none⟩ = some (.int .i64 r) := by
                  rw [World.cell?_of_block (w := w388) (a := ⟨w378.heap.size, 2, none⟩) (he404.2.2.2.2 (w378.heap.size) (by omega) (by omega))]; exact f399
                clear f394 f395 f396 f397 f398 f399
                clear he404 k403
                clear fz400
                cases tb406
                · clear fz407
                  obtain ⟨lo417, hr418, hx419⟩ := HD408.out.row
                  have hH428 := HD408.out.hH
                  have x429 := HD408.out.x1
                  have o430 := HD408.out.ord
                  have ll431 := HD408.out.len
                  go_wp2_with fail
                  go_at_call 117
                  refine (put_any lo417 w347.heap.size (L352.length) _ L352 _ _ _ _ rfl hr418.row hH428 (by omega)).mono ?_
                  rintro e w416 ⟨rv420, L421, rfl, h422, hl423, hb424⟩
                  obtain ⟨ra425, rc426, hv427⟩ := h422.slice
                  subst hv427
                  clear x429
                  have HD432 := Lib.hid (HD408.out.grow hb424)
                  have sz433 := hb424.size
                  have f434 : w416.cell? ⟨w22.heap.size, 0, none⟩ = some (.int .i64 p) := by
                    rw [hb424.cell (p := ⟨w22.heap.size, 0, none⟩) (by show w22.heap.size < _; omega)]; exact f410
                  have f435 : w416.cell? ⟨w22.heap.size, 1, none⟩ = some (.int .i64 q) := by
                    rw [hb424.cell (p := ⟨w22.heap.size, 1, none⟩) (by show w22.heap.size < _; omega)]; exact f411
                  have f436 : w416.cell? ⟨w22.heap.size, 2, none⟩ = some (.int .i64 r) := by
                    rw [hb424.cell (p := ⟨w22.heap.size, 2, none⟩) (by show w22.heap.size < _; omega)]; exact f412
                  have f437 : w416.cell? ⟨w378.heap.size, 0, none⟩ = some (.int .i64 q) := by
                    rw [hb424.cell (p := ⟨w378.heap.size, 0, none⟩) (by show w378.heap.size < _; omega)]; exact f413
                  have f438 : w416.cell? ⟨w378.heap.size, 1, none⟩ = some (.int .i64 p) := by
                    rw [hb424.cell (p := ⟨w378.heap.size, 1, none⟩) (by show w378.heap.size < _; omega)]; exact f414
                  have f439 : w416.cell? ⟨w378.heap.size, 2, none⟩ = some (.int .i64 r) := by
                    rw [hb424.cell (p := ⟨w378.heap.size, 2, none⟩) (by show w378.heap.size < _; omega)]; exact f415
                  clear f410 f411 f412 f413 f414 f415
                  have xf441 := HD432.out.xf 1
                  have x442 := HD432.out.x1
                  have HD440 := Lib.hid (HD432.out.edges h422 (by omega) (by omega))
                  clear h422 hr418
                  go_wp2_with fail
                  go_roundw
                  case rel => exact ⟨k + 1, _, L421, w416.heap.size, by omega, by go_num, HD440⟩
                  case measure => simp [intOf]; omega
                · obtain ⟨ci444, hc445⟩ := HD408.out.cur
                  go_wp2_with fail
                  go_at_call 82
                  refine (below_any C a n cp ci444 6 _ hc445 (by omega)).mono ?_
                  rintro e w448 ⟨⟨u443, rfl, u4430, u4431, u4432⟩, k446, he447⟩
                  clear hc445
                  have fz449 : w448.frozen? ⟨w378.heap.size, 2, none⟩ = false := by rw [World.frozen?_of_block (w := w405) (a := ⟨w378.heap.size, 2, none⟩) (he447.2.2.2.2 (w378.heap.size) (by omega) (by omega))]; exact fz407
                  have HD450 := Lib.hid (HD408.out.else_ he447 k446)
                  have sz451 := he447.2.2.2.1
                  have f452 : w448.cell? ⟨w22.heap.size, 0, none⟩ = some (.int .i64 p) := by
                    rw [World.cell?_of_block (w := w405) (a := ⟨w22.heap.size, 0, none⟩) (he447.2.2.2.2 (w22.heap.size) (by omega) (by omega))]; exact f410
                  have f453 : w448.cell? ⟨w22.heap.size, 1, none⟩ = some (.int .i64 q) := by
                    rw [World.cell?_of_block (w := w405) (a := ⟨w22.heap.size, 1, none⟩) (he447.2.2.2.2 (w22.heap.size) (by omega) (by omega))]; exact f411
                  have f454 : w448.cell? ⟨w22.heap.size, 2, none⟩ = some (.int .i64 r) := by
                    rw [World.cell?_of_block (w := w405) (a := ⟨w22.heap.size, 2, none⟩) (he447.2.2.2.2 (w22.heap.size) (by omega) (by omega))]; exact f412
                  have f455 : w448.cell? ⟨w378.heap.size, 0, none⟩ = some (.int .i64 q) := by
                    rw [World.cell?_of_block (w := w405) (a := ⟨w378.heap.size, 0, none⟩) (he447.2.2.2.2 (w378.heap.size) (by omega) (by omega))]; exact f413
                  have f456 : w448.cell? ⟨w378.heap.size, 1, none⟩ = some (.int .i64 p) := by
                    rw [World.cell?_of_block (w := w405) (a := ⟨w378.heap.size, 1, none⟩) (he447.2.2.2.2 (w378.heap.size) (by omega) (by omega))]; exact f414
                  have f457 : w448.cell? ⟨w378.heap.size, 2, none⟩ = some (.int .i64 r) := by
                    rw [World.cell?_of_block (w := w405) (a := ⟨w378.heap.size, 2, none⟩) (he447.2.2.2.2 (w378.heap.size) (by omega) (by omega))]; exact f415
                  clear f410 f411 f412 f413 f414 f415
                  clear he447 k446
                  clear fz407
                  have u4433 := u4431 (by omega)
                  clear u4431 u4432
                  have hH461 := HD450.out.hH
                  have o462 := HD450.out.ord
                  have HD460 : Hid (DgS w (w448.setCell ⟨w378.heap.size, 2, none⟩ (.int .i64 (1 + u443))) C a n cp m w.heap.size (w.heap.size + 1) w347.heap.size (.slice ra356 L352.length rc357) L352) := HD450.out.box (by omega) (by omega)
                  have hB0 : (w448.setCell ⟨w378.heap.size, 2, none⟩ (.int .i64 (1 + u443))).cell? ⟨w378.heap.size, 0, none⟩ = some (.int .i64 q) := by rw [World.cell?_setCell_other _ _ _ _ (by simp)]; exact f455
                  have hB1 : (w448.setCell ⟨w378.heap.size, 2, none⟩ (.int .i64 (1 + u443))).cell? ⟨w378.heap.size, 1, none⟩ = some (.int .i64 p) := by rw [World.cell?_setCell_other _ _ _ _ (by simp)]; exact f456
                  have hB2 : (w448.setCell ⟨w378.heap.size, 2, none⟩ (.int .i64 (1 + u443))).cell? ⟨w378.heap.size, 2, none⟩ = some (.int .i64 (1 + u443)) := World.cell?_setCell_same _ _ _ f457
                  have sz463 : (w448.setCell ⟨w378.heap.size, 2, none⟩ (.int .i64 (1 + u443))).heap.size = w448.heap.size := by simp [World.setCell]
                  obtain ⟨lo465, hr466, hx467⟩ := HD460.out.row
                  have hH476 := HD460.out.hH
                  have x477 := HD460.out.x1
                  have o478 := HD460.out.ord
                  have ll479 := HD460.out.len
                  go_wp2_with fail
                  go_at_call 117
                  refine (put_any lo465 w347.heap.size (L352.length) _ L352 _ _ _ _ rfl hr466.row hH476 (by omega)).mono ?_
                  rintro e w464 ⟨rv468, L469, rfl, h470, hl471, hb472⟩
                  obtain ⟨ra473, rc474, hv475⟩ := h470.slice
                  subst hv475
                  clear x477
                  have HD480 := Lib.hid (HD460.out.grow hb472)
                  have sz481 := hb472.size
                  have xf483 := HD480.out.xf 1
                  have x484 := HD480.out.x1
                  have HD482 := Lib.hid (HD480.out.edges h470 (by omega) (by omega))
                  clear h470 hr466
                  go_wp2_with fail
                  go_roundw
                  case rel => exact ⟨k + 1, _, L469, w464.heap.size, by omega, by go_num, HD482⟩
                  case measure => simp [intOf]; omega
              · have dv : decide (0 < v377) = false := decide_eq_false hv9
                clear hv9
                go_wp2_with fail
                go_roundw
                case rel => exact ⟨k + 1, _, L352, w347.heap.size, by omega, by go_num, HD383⟩
                case measure => simp [intOf]; omega
            · have x485 := HD39.out.x1
              rw [hw36] at x485
              go_wp2_with fail
              rw [← hw36]
              go_roundw
              case rel => exact ⟨k + 1, _, L', H, by omega, by go_num, HD39⟩
              case measure => simp [intOf]; omega
      · have d1 : decide ((k : Int) < kk) = true := decide_eq_true hk1
        have d2 : decide (1 < m) = false := decide_eq_false hm1
        have x0 := hD.out.x0
        have x1 := hD.out.x1
        have r0 := hD.out.r0.1
        have r1 := hD.out.r0.2
        have rf0 := hD.out.rf 0
        have rf1 := hD.out.rf 1
        have s0 : ((wr.setCell ⟨w.heap.size, 0, none⟩ (.int .i64 m)).setCell ⟨w.heap.size, 1, none⟩ (.slice ga L'.length gc)).cell? ⟨w.heap.size, 0, none⟩ = some (.int .i64 m) := by rw [World.cell?_setCell_other _ _ _ _ (by simp)]; exact World.cell?_setCell_same _ _ _ r0
        have s1' : (wr.setCell ⟨w.heap.size, 0, none⟩ (.int .i64 m)).cell? ⟨w.heap.size, 1, none⟩ = some (.slice none 0 0) := by rw [World.cell?_setCell_other _ _ _ _ (by simp)]; exact r1
        have s1 : ((wr.setCell ⟨w.heap.size, 0, none⟩ (.int .i64 m)).setCell ⟨w.heap.size, 1, none⟩ (.slice ga L'.length gc)).cell? ⟨w.heap.size, 1, none⟩ = some (.slice ga L'.length gc) := World.cell?_setCell_same _ _ _ s1'
        have HDn := hD.out.done (.int .i64 m) (.slice ga L'.length gc)
        have HDN := Lib.hid HDn
        clear HDn s1'
        go_wp2_with fail
        exact bodyPost_ret (v := .agg #[.int .i64 m, .slice ga L'.length gc]) (by simp [results, Try.results104, go_sem, s0, s1]) rfl ⟨_, L', rfl, HDN.out.1, hlen, HDN.out.2⟩
    · have d1 : decide ((k : Int) < kk) = false := decide_eq_false hk1
      have x0 := hD.out.x0
      have x1 := hD.out.x1
      have r0 := hD.out.r0.1
      have r1 := hD.out.r0.2
      have rf0 := hD.out.rf 0
      have rf1 := hD.out.rf 1
      have s0 : ((wr.setCell ⟨w.heap.size, 0, none⟩ (.int .i64 m)).setCell ⟨w.heap.size, 1, none⟩ (.slice ga L'.length gc)).cell? ⟨w.heap.size, 0, none⟩ = some (.int .i64 m) := by rw [World.cell?_setCell_other _ _ _ _ (by simp)]; exact World.cell?_setCell_same _ _ _ r0
      have s1' : (wr.setCell ⟨w.heap.size, 0, none⟩ (.int .i64 m)).cell? ⟨w.heap.size, 1, none⟩ = some (.slice none 0 0) := by rw [World.cell?_setCell_other _ _ _ _ (by simp)]; exact r1
      have s1 : ((wr.setCell ⟨w.heap.size, 0, none⟩ (.int .i64 m)).setCell ⟨w.heap.size, 1, none⟩ (.slice ga L'.length gc)).cell? ⟨w.heap.size, 1, none⟩ = some (.slice ga L'.length gc) := World.cell?_setCell_same _ _ _ s1'
      have HDn := hD.out.done (.int .i64 m) (.slice ga L'.length gc)
      have HDN := Lib.hid HDn
      clear HDn s1'
      go_wp2_with fail
      exact bodyPost_ret (v := .agg #[.int .i64 m, .slice ga L'.length gc]) (by simp [results, Try.results104, go_sem, s0, s1]) rfl ⟨_, L', rfl, HDN.out.1, hlen, HDN.out.2⟩

end Go.Proofs.Ytjenjdhoblcohaa
