/- A histogram is added to another one in its box. -/
import Derived.Test.YtcchoiobdcaboaaS5
import Derived.RegionTactic
import Derived.BigRegion
namespace Go.Proofs.Ytcchoiobdcaboaa
open Go.RowKit


theorem Row.block {k n c lo hi g : Nat} {w : World} {Z : List Int} (h : Row k w lo hi (.slice (some ⟨g, 0, none⟩) n c) n Z) (hn : 0 < n) : lo ≤ g := by
  obtain ⟨_, ⟨e, _⟩ | ⟨b, q, e, h1, _⟩⟩ := h
  · omega
  · simp only [Value.slice.injEq, Option.some.injEq] at e
    obtain ⟨e, _⟩ := e
    have : g = b := by simpa using e
    omega
/-- Of w no old block but X and G has turned. -/
structure Two (X G : Nat) (w w' : World) : Prop where
  os : w'.os = w.os
  tape : w'.tape = w.tape
  output : w'.output = w.output
  size : w.heap.size ≤ w'.heap.size
  block : ∀ b, b < w.heap.size → b ≠ X → b ≠ G → w'.heap[b]? = w.heap[b]?
theorem Two.refl (X G : Nat) (w : World) : Two X G w w := ⟨rfl, rfl, rfl, Nat.le_refl _, fun _ _ _ _ => rfl⟩
theorem Two.trans {X G : Nat} {a b c : World} (h : Two X G a b) (k : Two X G b c) : Two X G a c :=
  ⟨k.os.trans h.os, k.tape.trans h.tape, k.output.trans h.output, Nat.le_trans h.size k.size, fun q hq h1 h2 => (k.block q (Nat.lt_of_lt_of_le hq h.size) h1 h2).trans (h.block q hq h1 h2)⟩
theorem Two.of_below {X G : Nat} {w w' : World} (h : Below w.heap.size w w') : Two X G w w' := ⟨h.os, h.tape, h.output, h.size, fun b hb _ _ => h.block b hb⟩
theorem Two.setX {X G : Nat} {w w' : World} (h : Two X G w w') (o : Nat) (u : Value) : Two X G w (w'.setCell ⟨X, o, none⟩ u) :=
  ⟨h.os, h.tape, h.output, by simpa [World.setCell] using h.size, fun b hb h1 h2 => by rw [Below.heap_setCell _ _ _ _ (by simpa using h1)]; exact h.block b hb h1 h2⟩
theorem Two.setG {X G : Nat} {w w' : World} (h : Two X G w w') (o : Nat) (u : Value) : Two X G w (w'.setCell ⟨G, o, none⟩ u) :=
  ⟨h.os, h.tape, h.output, by simpa [World.setCell] using h.size, fun b hb h1 h2 => by rw [Below.heap_setCell _ _ _ _ (by simpa using h2)]; exact h.block b hb h1 h2⟩
theorem Two.drew {X G : Nat} {w w' : World} (h : Two X G w w') : Two X G w w'.drew := ⟨h.os, h.tape, h.output, h.size, h.block⟩
theorem Two.cell {X G b o : Nat} {w w' : World} (h : Two X G w w') (hb : b < w.heap.size) (h1 : b ≠ X) (h2 : b ≠ G) : w'.cell? ⟨b, o, none⟩ = w.cell? ⟨b, o, none⟩ := World.cell?_of_block (w := w) (a := ⟨b, o, none⟩) (h.block b hb h1 h2)
theorem Two.frozen {X G b o : Nat} {w w' : World} (h : Two X G w w') (hb : b < w.heap.size) (h1 : b ≠ X) (h2 : b ≠ G) : w'.frozen? ⟨b, o, none⟩ = w.frozen? ⟨b, o, none⟩ := World.frozen?_of_block (w := w) (a := ⟨b, o, none⟩) (h.block b hb h1 h2)
theorem Two.below {X G B : Nat} {w w' : World} (h : Two X G w w') (h1 : B ≤ X) (h2 : B ≤ G) (h3 : B ≤ w.heap.size) : Below B w w' := ⟨h.os, h.tape, h.output, h.size, fun b hb => h.block b (by omega) (by omega) (by omega)⟩
theorem Two.row {X G k lo hi n : Nat} {w w' : World} {v : Value} {Z : List Int} (h : Two X G w w') (hr : Row k w lo hi v n Z) (hh : hi ≤ w.heap.size) (h1 : X < lo ∨ hi ≤ X) (h2 : G < lo ∨ hi ≤ G) : Row k w' lo hi v n Z := by
  obtain ⟨h0, hr⟩ := hr
  refine ⟨h0, ?_⟩
  rcases hr with hr | ⟨b, cap, rfl, e1, e2, e3, e4, e5⟩
  · exact .inl hr
  · refine .inr ⟨b, cap, rfl, e1, e2, e3, fun q z hz => ?_, fun o => ?_⟩
    · rw [h.cell (by omega) (by omega) (by omega)]; exact e4 q z hz
    · rw [h.frozen (by omega) (by omega) (by omega)]; exact e5 o
/-- A histogram in a box: its slice and its sum in block X, its counts in block G. -/
structure HBx (w : World) (X G c : Nat) (C : List Int) (s : Int) : Prop where
  c0 : w.cell? ⟨X, 0, none⟩ = some (.slice (some ⟨G, 0, none⟩) 21 c)
  c1 : w.cell? ⟨X, 1, none⟩ = some (.int .i64 s)
  fx : ∀ o, w.frozen? ⟨X, o, none⟩ = false
  cs : ∀ q z, C[q]? = some z → w.cell? ⟨G, q, none⟩ = some (.int .i64 z)
  fg : ∀ o, w.frozen? ⟨G, o, none⟩ = false
  len : C.length = 21
  lx : X < w.heap.size
  lg : G < w.heap.size
  ne : X ≠ G
theorem HBx.move {w w' : World} {X G c : Nat} {C : List Int} {s : Int} (h : HBx w X G c C s) (hs : w.heap.size ≤ w'.heap.size) (h1 : w'.heap[X]? = w.heap[X]?) (h2 : w'.heap[G]? = w.heap[G]?) : HBx w' X G c C s where
  c0 := by rw [World.cell?_of_block (w := w) (a := ⟨X, 0, none⟩) h1]; exact h.c0
  c1 := by rw [World.cell?_of_block (w := w) (a := ⟨X, 1, none⟩) h1]; exact h.c1
  fx o := by rw [World.frozen?_of_block (w := w) (a := ⟨X, o, none⟩) h1]; exact h.fx o
  cs q z hz := by rw [World.cell?_of_block (w := w) (a := ⟨G, q, none⟩) h2]; exact h.cs q z hz
  fg o := by rw [World.frozen?_of_block (w := w) (a := ⟨G, o, none⟩) h2]; exact h.fg o
  len := h.len
  lx := Nat.lt_of_lt_of_le h.lx hs
  lg := Nat.lt_of_lt_of_le h.lg hs
  ne := h.ne
theorem HBx.below {w w' : World} {X G c B : Nat} {C : List Int} {s : Int} (h : HBx w X G c C s) (hb : Below B w w') (h1 : X < B) (h2 : G < B) : HBx w' X G c C s := h.move hb.size (hb.block X h1) (hb.block G h2)
theorem HBx.two {w w' : World} {X G c Y H : Nat} {C : List Int} {s : Int} (h : HBx w X G c C s) (hb : Two Y H w w') (h1 : X ≠ Y) (h2 : X ≠ H) (h3 : G ≠ Y) (h4 : G ≠ H) : HBx w' X G c C s := h.move hb.size (hb.block X h.lx h1 h2) (hb.block G h.lg h3 h4)
theorem HBx.drew {w : World} {X G c : Nat} {C : List Int} {s : Int} (h : HBx w X G c C s) : HBx w.drew X G c C s := ⟨h.c0, h.c1, h.fx, h.cs, h.fg, h.len, h.lx, h.lg, h.ne⟩
theorem HBx.putG {w : World} {X G c : Nat} {C : List Int} {s : Int} (h : HBx w X G c C s) {k : Nat} (hk : k < 21) (z : Int) : HBx (w.setCell ⟨G, k, none⟩ (.int .i64 z)) X G c (C.set k z) s where
  c0 := by rw [World.cell?_setCell_other _ _ _ _ (by have := h.ne; simp <;> omega)]; exact h.c0
  c1 := by rw [World.cell?_setCell_other _ _ _ _ (by have := h.ne; simp <;> omega)]; exact h.c1
  fx o := by rw [World.frozen?_setCell]; exact h.fx o
  cs q u hu := by
    by_cases e : k = q
    · subst e
      rw [List.getElem?_set_self (by rw [h.len]; exact hk)] at hu
      obtain rfl := Option.some.inj hu
      exact World.cell?_setCell_same' _ _ _ (by rw [h.cs _ _ (List.getElem?_eq_getElem (by rw [h.len]; exact hk))]; rfl)
    · rw [List.getElem?_set_ne e] at hu
      rw [World.cell?_setCell_other _ _ _ _ (by simp <;> omega)]
      exact h.cs _ _ hu
  fg o := by rw [World.frozen?_setCell]; exact h.fg o
  len := by rw [List.length_set]; exact h.len
  lx := by simpa [World.setCell] using h.lx
  lg := by simpa [World.setCell] using h.lg
  ne := h.ne
theorem HBx.putX {w : World} {X G c : Nat} {C : List Int} {s : Int} (h : HBx w X G c C s) (z : Int) : HBx (w.setCell ⟨X, 1, none⟩ (.int .i64 z)) X G c C z where
  c0 := by rw [World.cell?_setCell_other _ _ _ _ (by simp)]; exact h.c0
  c1 := World.cell?_setCell_same' _ _ _ (by rw [h.c1]; rfl)
  fx o := by rw [World.frozen?_setCell]; exact h.fx o
  cs q u hu := by rw [World.cell?_setCell_other _ _ _ _ (by have := h.ne; simp <;> omega)]; exact h.cs _ _ hu
  fg o := by rw [World.frozen?_setCell]; exact h.fg o
  len := h.len
  lx := by simpa [World.setCell] using h.lx
  lg := by simpa [World.setCell] using h.lg
  ne := h.ne
theorem HBx.row {w : World} {X G c lo hi : Nat} {C : List Int} {s : Int} (h : HBx w X G c C s) (h1 : lo ≤ G) (h2 : G < hi) : Row 1 w lo hi (.slice (some ⟨G, 0, none⟩) 21 c) 21 C := ⟨by rw [h.len], .inr ⟨G, c, rfl, h1, h2, by omega, h.cs, h.fg⟩⟩
theorem HBx.at_ {w : World} {X G c : Nat} {C : List Int} {s : Int} (h : HBx w X G c C s) {k : Nat} (hk : k < 21) : w.cell? ⟨G, k, none⟩ = some (.int .i64 (cAt C k)) := h.cs _ _ (cAt_some (by rw [h.len]; exact hk))

set_option maxRecDepth 100000 in
set_option maxHeartbeats 4000000 in
theorem iadd_any (X G c lo hi : Nat) (v : Value) (C D : List Int) (s s2 tm : Int) (w : World) (hX : HBx w X G c C s) (hr : Row 1 w lo hi v 21 D) (hh : hi ≤ w.heap.size) (hd : X < lo ∨ hi ≤ X) (hg : G < lo ∨ hi ≤ G)
    (hC : ∀ i, i < 21 → 0 ≤ cAt C i ∧ cAt C i ≤ 1000000) (hD : ∀ i, i < 21 → 0 ≤ cAt D i ∧ cAt D i ≤ 1000000) (ht : tm = 1 ∨ tm = -1) (hs : 0 ≤ s ∧ s ≤ 21000000000000) (hs2 : 0 ≤ s2 ∧ s2 ≤ 21000000000000) :
    Calls Try.prog 50 #[.pointer (some ⟨X, 0, none⟩), .agg #[v, .int .i64 s2], .int .i64 tm] w fun e w' => e = .returned (.tuple #[]) ∧ HBx w' X G c (comb C D tm 21) (s + tm * s2) ∧ Two X G w w' := by
  have hl : D.length = 21 := by have := hr.1; omega
  have HL := Lib.hid hl
  obtain ⟨ad, cp, rfl, _, hc⟩ := hr.opened
  obtain ⟨g, rfl, hgh, hcell⟩ := hc (by omega)
  have hgb := hr.block (by omega)
  have ngX : g ≠ X := by omega
  have ngG : g ≠ G := by
    rcases hg with h | h
    · exact fun e => Nat.lt_irrefl G (Nat.lt_of_lt_of_le h (e ▸ hgb))
    · exact fun e => Nat.lt_irrefl G (Nat.lt_of_lt_of_le (e ▸ hgh) h)
  have hgl : g < w.heap.size := by omega
  have HCELL := Lib.hid hcell
  have HX := Lib.hid hX
  have hXl := hX.lx
  have hGl := hX.lg
  have HCb := Lib.hid hC
  have HDb := Lib.hid hD
  have HCl := Lib.hid hX.len
  have hm2 : 0 ≤ tm * s2 ∧ tm * s2 ≤ 21000000000000 ∨ -21000000000000 ≤ tm * s2 ∧ tm * s2 ≤ 0 := by rcases ht with rfl | rfl <;> omega
  have HT := Lib.hid ht
  obtain ⟨ss0, ss1⟩ := hs
  have mm0 : -21000000000000 ≤ tm * s2 := by omega
  have mm1 : tm * s2 ≤ 21000000000000 := by omega
  clear hr hc hcell hX hC hD ht hl hgb hgh hh hd hg hm2 hs2
  go_enter Try.func50, Try.ntmps50
  go_wp2_with fail
  obtain ⟨w1, hw1⟩ : ∃ w1, w1 = w.alloc (.cells #[.slice (some ⟨g, 0, none⟩) 21 cp, .int .i64 s2] 27) := ⟨_, rfl⟩
  have hb1 : Below w.heap.size w w1 := by rw [hw1]; exact (Below.refl _ _).alloc (Nat.le_refl _) _
  have hz1 : w.heap.size < w1.heap.size := by rw [hw1]; simp
  have k0 : w1.cell? ⟨w.heap.size, 0, none⟩ = some (.slice (some ⟨g, 0, none⟩) 21 cp) := by rw [hw1, new_at rfl]; rfl
  have k1 : w1.cell? ⟨w.heap.size, 1, none⟩ = some (.int .i64 s2) := by rw [hw1, new_at rfl]; rfl
  have K0 := Lib.hid k0
  have K1 := Lib.hid k1
  have HB1 := Lib.hid hb1
  have HX1 : Hid (HBx w1 X G c (comb C D tm 0) s) := by show HBx _ _ _ _ _ _; rw [comb_zero]; exact HX.out.below hb1 hXl hGl
  have HC1 : Hid (∀ q z, D[q]? = some z → w1.cell? ⟨g, q, none⟩ = some (.int .i64 z)) := fun q z hz => by rw [hb1.cell (p := ⟨g, q, none⟩) hgl]; exact HCELL.out q z hz
  rw [← hw1]
  clear hw1 hb1 k0 k1 HCELL
  have nBX : w.heap.size ≠ X := by omega
  have nBG : w.heap.size ≠ G := by omega
  have hg1 : g < w1.heap.size := by omega
  go_loopw [7] (fun i wr => ∃ k : Nat, k ≤ 21 ∧ i = .int .i64 (k : Int) ∧ Hid (HBx wr X G c (comb C D tm k) s) ∧ Hid (Two X G w1 wr)) (fun i _ => 21 - (intOf i).toNat)
  case atStart => exact ⟨0, by omega, rfl, HX1, Two.refl _ _ _⟩
  case round =>
    clear HX1
    obtain ⟨k, hk, rfl, hH, hT⟩ := hrel
    have x0 := hH.out.c0
    have b0 : wr.cell? ⟨w.heap.size, 0, none⟩ = some (.slice (some ⟨g, 0, none⟩) 21 cp) := by rw [hT.out.cell hz1 nBX nBG]; exact K0.out
    have b1 : wr.cell? ⟨w.heap.size, 1, none⟩ = some (.int .i64 s2) := by rw [hT.out.cell hz1 nBX nBG]; exact K1.out
    by_cases hlt : k < 21
    case neg =>
      obtain rfl : k = 21 := by omega
      have hge : ¬ (((21 : Nat) : Int) < 21) := by omega
      have x1 := hH.out.c1
      have f1 := hH.out.fx 1
      have HE : Hid (HBx (wr.setCell ⟨X, 1, none⟩ (.int .i64 (s + tm * s2))) X G c (comb C D tm 21) (s + tm * s2)) := hH.out.putX _
      have HE2 : Hid (Two X G w (wr.setCell ⟨X, 1, none⟩ (.int .i64 (s + tm * s2)))) := (Two.of_below HB1.out |>.trans hT.out).setX _ _
      clear hH hT
      go_wp2_with fail
      go_region
      all_goals
        go_end0
        exact ⟨rfl, HE.out.drew, HE2.out.drew⟩
    case pos =>
    have hCk := HCb.out k hlt
    have hDk := HDb.out k hlt
    obtain ⟨a, ha⟩ : ∃ a, a = cAt C k := ⟨_, rfl⟩
    obtain ⟨d, hd⟩ : ∃ d, d = cAt D k := ⟨_, rfl⟩
    rw [← ha] at hCk
    rw [← hd] at hDk
    obtain ⟨a0, a1⟩ := hCk
    obtain ⟨d0, d1⟩ := hDk
    have y0 : wr.cell? ⟨G, k, none⟩ = some (.int .i64 a) := by rw [hH.out.at_ hlt, comb_cAt _ _ _ _ _ (by rw [HCl.out]; exact hlt), if_neg (Nat.lt_irrefl _), ha]
    have y1 := hH.out.fg k
    have z0 : wr.cell? ⟨g, k, none⟩ = some (.int .i64 d) := by rw [hT.out.cell hg1 ngX ngG, hd]; exact HC1.out k _ (cAt_some (by rw [HL.out]; exact hlt))
    have hm : 0 ≤ tm * d ∧ tm * d ≤ 1000000 ∨ -1000000 ≤ tm * d ∧ tm * d ≤ 0 := by rcases HT.out with e | e <;> rw [e] <;> omega
    have m0 : -1000000 ≤ tm * d := by omega
    have m1 : tm * d ≤ 1000000 := by omega
    have HN : Hid (HBx (wr.setCell ⟨G, k, none⟩ (.int .i64 (a + tm * d))) X G c (comb C D tm (k + 1)) s) := by
      have := hH.out.putG hlt (a + tm * d)
      rw [ha, hd, comb_step _ _ _ _ (by rw [HCl.out]; exact hlt), ← ha, ← hd] at this
      exact this
    have HN2 : Hid (Two X G w1 (wr.setCell ⟨G, k, none⟩ (.int .i64 (a + tm * d)))) := hT.out.setG _ _
    have q0 : (0 : Int) ≤ (k : Int) := by omega
    have q1 : (k : Int) < 21 := by omega
    clear hH hT ha hd hm
    go_wp2_with fail
    go_region
    all_goals
      go_wp2_with fail
      go_roundw
      case rel => exact ⟨k + 1, by omega, by go_num, HN.out.drew, HN2.out.drew⟩
      case measure => simp [intOf]; omega

end Go.Proofs.Ytcchoiobdcaboaa
