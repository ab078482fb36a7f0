/- The first of a heap taken out. -/
import Derived.Test.YtjenjdhoblcohaaW28
namespace Go.Proofs.Ytjenjdhoblcohaa
open Go.RowKit


set_option maxHeartbeats 2000000 in
theorem sink_nil (X g cap : Nat) (w : World) (h0 : w.cell? ⟨X, 0, none⟩ = some (.slice (some ⟨g, 0, none⟩) 0 cap)) :
    Calls Try.prog 114 #[.pointer (some ⟨X, 0, none⟩), .int .i64 0] w fun e w' => e = .returned (.tuple #[]) ∧ w = w' := by
  go_enter Try.func114, Try.ntmps114
  go_wp2_with fail
  go_loop [1, 4, 5] (fun sa _ _ => sa = .int .i64 0) (fun _ _ _ => 0)
  case atStart => exact rfl
  case round =>
    subst hrel
    go_wp2_with fail
    go_loop [4, 5] (fun sbest sb => sbest = .int .i64 0 ∧ sb = .int .i64 1) (fun _ _ => 0)
    case atStart => exact ⟨rfl, rfl⟩
    case round =>
      obtain ⟨rfl, rfl⟩ := hrel
      go_wp2_with fail
      exact bodyPost_ret (v := .tuple #[]) (by simp [results, Try.results114, go_sem]) rfl ⟨rfl, rfl⟩

theorem ownsRow_cut {w : World} {base g n cap : Nat} {F : Nat → TV} (h : w.ownsRow base 86 2 (.slice (some ⟨g, 0, none⟩) (n + 1) cap) (n + 1) (tcs F (n + 1))) : w.ownsRow base 86 2 (.slice (some ⟨g, 0, none⟩) n cap) n (tcs F n) := by
  refine ⟨tcs_len F n, ?_⟩
  rcases h.2 with ⟨h1, _⟩ | ⟨g', cap', cur, h1, h2, h3, h4, h5, h6, h7⟩
  · cases h1
  · obtain ⟨rfl, rfl⟩ : g = g' ∧ cap = cap' := by simpa using h1
    refine .inr ⟨g, cap, cur, rfl, h2, h3, by omega, h5, h6, ?_⟩
    have : cur.toList.take (n * 2) = (cur.toList.take ((n + 1) * 2)).take (n * 2) := by rw [List.take_take, Nat.min_eq_left (by omega)]
    rw [this, h7, tcs_succ, List.take_append_of_le_length (by rw [tcs_len]; exact Nat.le_refl _), List.take_of_length_le (by rw [tcs_len]; exact Nat.le_refl _)]
theorem HSt.cut {w : World} {X g n cap : Nat} {F : Nat → TV} (h : HSt w X (.slice (some ⟨g, 0, none⟩) (n + 1) cap) F (n + 1)) : HSt (w.setCell ⟨X, 0, none⟩ (.slice (some ⟨g, 0, none⟩) n cap)) X (.slice (some ⟨g, 0, none⟩) n cap) F n := by
  obtain ⟨h1, h2, h3, h4, h5⟩ := h
  exact ⟨World.cell?_setCell_same' _ _ _ (by rw [h1]; rfl), by rw [World.cell?_setCell_other _ _ _ _ (by simp)]; exact h2, by simp [h3], by simpa [World.setCell] using h4, ownsRow_setCell_below (ownsRow_cut h5) (by show X < X + 1; omega) _⟩
/-- The first taken out. -/
def PopPost (w w' : World) (X n : Nat) (F : Nat → TV) (g cap : Nat) : Prop :=
  ∃ F', HSt w' X (.slice (some ⟨g, 0, none⟩) n cap) F' n ∧ Ord leV F' n ∧ (∀ x, Mem F' n x → Mem F (n + 1) x) ∧ (∀ x, Mem F (n + 1) x → x = F 0 ∨ Mem F' n x) ∧ HFr w w' X (some g)
theorem HFr.undrew {w w' : World} {X : Nat} {r : Option Nat} (h : HFr w.drew w' X r) : HFr w w' X r := h
theorem HSt.far {w : World} {X g n cap R o : Nat} {F : Nat → TV} {u : Value} (h : HSt w X (.slice (some ⟨g, 0, none⟩) n cap) F n) (hX : R ≠ X) (hg : R ≠ g) : HSt (w.setCell ⟨R, o, none⟩ u) X (.slice (some ⟨g, 0, none⟩) n cap) F n := by
  obtain ⟨h1, h2, h3, h4, h5⟩ := h
  refine ⟨by rw [World.cell?_setCell_other _ _ _ _ (by simp <;> omega)]; exact h1, by rw [World.cell?_setCell_other _ _ _ _ (by simp <;> omega)]; exact h2, by simp [h3], by simpa [World.setCell] using h4, ?_⟩
  obtain ⟨k1, k2⟩ := h5
  refine ⟨k1, ?_⟩
  rcases k2 with k2 | ⟨g', cap', cur, e, k3, k4, k5⟩
  · exact .inl k2
  · obtain ⟨rfl, rfl⟩ : g = g' ∧ cap = cap' := by simpa using e
    exact .inr ⟨g, cap, cur, rfl, k3, by rw [Below.heap_setCell _ _ _ _ (by show g ≠ R; omega)]; exact k4, k5⟩
theorem sink_all (X n g cap : Nat) (F : Nat → TV) (w : World) (h : HSt w X (.slice (some ⟨g, 0, none⟩) n cap) F n) (hn : n ≤ 1000) (hO : DnOrd leV F n 0) (hN : ∀ x, Mem F n x → NAt w x ∧ x.g ≠ X ∧ x.g ≠ g) :
    Calls Try.prog 114 #[.pointer (some ⟨X, 0, none⟩), .int .i64 0] w fun e w' => e = .returned (.tuple #[]) ∧ SinkPost w w' X n F g cap := by
  by_cases h0 : n = 0
  · subst h0
    exact (sink_nil X g cap w h.1).mono fun _ _ ⟨he, hw⟩ => ⟨he, hw ▸ ⟨F, h, fun i _ hi => absurd hi (Nat.not_lt_zero _), fun _ => Iff.rfl, HFr.refl _ _ _⟩⟩
  · exact sink_any X n g cap F w h (by omega) hn hO hN
theorem pop_mem {F : Nat → TV} {n : Nat} : (∀ x, Mem (fun q => if q = 0 then F n else F q) n x → Mem F (n + 1) x) ∧ (∀ x, Mem F (n + 1) x → x = F 0 ∨ Mem (fun q => if q = 0 then F n else F q) n x) := by
  refine ⟨fun x hx => ?_, fun x hx => ?_⟩
  · obtain ⟨i, hi, rfl⟩ := hx
    by_cases e : i = 0
    · subst e; exact ⟨n, by omega, rfl⟩
    · exact ⟨i, by omega, by show F i = (if i = 0 then F n else F i); rw [if_neg e]⟩
  · obtain ⟨i, hi, rfl⟩ := hx
    by_cases e : i = 0
    · subst e; exact .inl rfl
    · right
      by_cases e2 : i = n
      · subst e2; exact ⟨0, by omega, rfl⟩
      · exact ⟨i, by omega, by show (if i = 0 then F n else F i) = F i; rw [if_neg e]⟩

set_option maxRecDepth 100000 in
set_option maxHeartbeats 8000000 in
theorem pop_any (X n g cap : Nat) (F : Nat → TV) (w : World) (h : HSt w X (.slice (some ⟨g, 0, none⟩) (n + 1) cap) F (n + 1)) (hn : n ≤ 1000) (hO : Ord leV F (n + 1)) (hN : ∀ x, Mem F (n + 1) x → NAt w x ∧ x.g ≠ X ∧ x.g ≠ g) :
    Calls Try.prog 97 #[.pointer (some ⟨X, 0, none⟩)] w fun e w' => e = .returned (.agg #[.int .i64 (F 0).c, .slice (some ⟨(F 0).g, 0, none⟩) (F 0).ns.length (F 0).cap]) ∧ PopPost w w' X n F g cap := by
  have hB : Below w.heap.size w (w.alloc (.cells #[.int .i64 0, .slice none 0 0] 86)) := (Below.refl _ _).alloc (Nat.le_refl _) _
  have H0 := Lib.hid h
  have H1 := Lib.hid (h.below hB)
  have HO := Lib.hid hO
  have HN := Lib.hid hN
  have k0 := H1.out.1
  have hX1 := H1.out.2.2.2.1
  have hXw : X ≠ w.heap.size := by have := h.2.2.2.1; omega
  obtain ⟨_, _, hsl, hXg, hgl, hfz, hit⟩ := H1.out.items (by omega)
  cases hsl
  obtain ⟨i0, i1⟩ := hit 0 (by omega)
  obtain ⟨j0, j1⟩ := hit n (by omega)
  have hgw : g < w.heap.size := by
    rcases h.2.2.2.2.form (by omega) with ⟨g', cap', e, _, hl⟩
    cases e; exact hl
  have q0 : (0 : Int) ≤ (n : Int) := by omega
  have q1 : (n : Int) < (n : Int) + 1 := by omega
  have hgne : g ≠ w.heap.size := by omega
  have hgne2 : g ≠ w.heap.size + 1 := by omega
  have hXw0 : X < w.heap.size := H0.out.2.2.2.1
  have hXw2 : X ≠ w.heap.size + 1 := by omega
  have hXw3 : X < w.heap.size + 1 := by omega
  have hgl3 : g < w.heap.size + 1 := by omega
  have m0 := old_box (x := .cells #[.int .i64 0, .slice none 0 0] 86) hX1 (o := 0)
  rw [k0] at m0
  have m1 := old_box (x := .cells #[.int .i64 0, .slice none 0 0] 86) hgl (o := 0)
  have m2 := old_box (x := .cells #[.int .i64 0, .slice none 0 0] 86) hgl (o := 1)
  simp only [Nat.zero_mul, Nat.zero_add] at i0 i1
  rw [i0] at m1
  rw [i1] at m2
  clear h hB hO hN hit
  go_enter Try.func97, Try.ntmps97
  go_wp2_with fail
  go_region
  go_wp2_with fail
  obtain ⟨w2, hw2⟩ : ∃ w2, w2 = ((w.alloc (.cells #[.int .i64 0, .slice none 0 0] 86)).alloc (.cells #[.int .i64 (F 0).c, .slice (some ⟨(F 0).g, 0, none⟩) (F 0).ns.length (F 0).cap] 86)).drew := ⟨_, rfl⟩
  have hB2 : Below w.heap.size w w2 := by rw [hw2]; exact (((Below.refl _ _).alloc (Nat.le_refl _) _).alloc (by simp) _).drew
  have H2 := Lib.hid (H0.out.below hB2)
  have HB2 := Lib.hid hB2
  have s2 : w2.heap.size = w.heap.size + 1 + 1 := by rw [hw2]; simp
  have a0 : w2.cell? ⟨w.heap.size, 0, none⟩ = some (.int .i64 0) := by rw [hw2, World.cell?_drew, old_box (by simp), newAt rfl]; rfl
  have a1 : w2.cell? ⟨w.heap.size, 1, none⟩ = some (.slice none 0 0) := by rw [hw2, World.cell?_drew, old_box (by simp), newAt rfl]; rfl
  have a2 : w2.frozen? ⟨w.heap.size, 0, none⟩ = false := by rw [hw2]; show ((w.alloc _).alloc _).frozen? _ = false; rw [oldFrz (by simp), newFrz rfl]
  have a3 : w2.frozen? ⟨w.heap.size, 1, none⟩ = false := by rw [hw2]; show ((w.alloc _).alloc _).frozen? _ = false; rw [oldFrz (by simp), newFrz rfl]
  have a4 : w2.cell? ⟨w.heap.size + 1, 0, none⟩ = some (.int .i64 (F 0).c) := by rw [hw2, World.cell?_drew, newAt (by simp)]; rfl
  have a5 : w2.cell? ⟨w.heap.size + 1, 1, none⟩ = some (.slice (some ⟨(F 0).g, 0, none⟩) (F 0).ns.length (F 0).cap) := by rw [hw2, World.cell?_drew, newAt (by simp)]; rfl
  rw [← hw2]
  clear hw2 hB2 m0 m1 m2 i0 i1 j0 j1 k0 hfz H1 hX1 hgl
  have k0 := H2.out.1
  obtain ⟨_, _, hsl, _, hgl, hfz, hit⟩ := H2.out.items (by omega)
  cases hsl
  obtain ⟨i0, i1⟩ := hit 0 (by omega)
  obtain ⟨j0, j1⟩ := hit n (by omega)
  simp only [Nat.zero_mul, Nat.zero_add] at i0 i1
  have f0 := hfz 0
  have f1 := hfz 1
  have fX := H2.out.2.2.1
  have hX2 := H2.out.2.2.2.1
  have hXg2 : ¬ X = g := by omega
  have hgX2 : ¬ g = X := by omega
  clear hit hfz
  have HS3 : Hid (HSt ((w2.setCell ⟨g, 0, none⟩ (.int .i64 (F n).c)).setCell ⟨g, 1, none⟩ (.slice (some ⟨(F n).g, 0, none⟩) (F n).ns.length (F n).cap)) X (.slice (some ⟨g, 0, none⟩) (n + 1) cap) (fun q => if q = 0 then F n else F q) (n + 1)) := by
    have := H2.out.put (i := 0) (F n) (by omega)
    simp only [Nat.zero_mul, Nat.zero_add] at this
    exact this
  have hcap : n ≤ cap := by
    rcases H0.out.2.2.2.2.2 with ⟨e, _⟩ | ⟨g', cap', cur, e, _, _, hc, _⟩
    · cases e
    · cases e; omega
  have hcap2 : (n : Int) ≤ (cap : Int) := by omega
  have HS4 : Hid (HSt (((w2.setCell ⟨g, 0, none⟩ (.int .i64 (F n).c)).setCell ⟨g, 1, none⟩ (.slice (some ⟨(F n).g, 0, none⟩) (F n).ns.length (F n).cap)).setCell ⟨X, 0, none⟩ (.slice (some ⟨g, 0, none⟩) n cap)) X (.slice (some ⟨g, 0, none⟩) n cap) (fun q => if q = 0 then F n else F q) n) := HS3.out.cut
  have HF4 : Hid (HFr w (((w2.setCell ⟨g, 0, none⟩ (.int .i64 (F n).c)).setCell ⟨g, 1, none⟩ (.slice (some ⟨(F n).g, 0, none⟩) (F n).ns.length (F n).cap)).setCell ⟨X, 0, none⟩ (.slice (some ⟨g, 0, none⟩) n cap)) X (some g)) := ((((HFr.refl w X (some g)).below HB2.out).setCell (.inr (.inl rfl)) _ _).setCell (.inr (.inl rfl)) _ _).setCell (.inl rfl) _ _
  have HN4 : Hid (∀ x, Mem (fun q => if q = 0 then F n else F q) n x → NAt (((w2.setCell ⟨g, 0, none⟩ (.int .i64 (F n).c)).setCell ⟨g, 1, none⟩ (.slice (some ⟨(F n).g, 0, none⟩) (F n).ns.length (F n).cap)).setCell ⟨X, 0, none⟩ (.slice (some ⟨g, 0, none⟩) n cap)) x ∧ x.g ≠ X ∧ x.g ≠ g) := fun x hx => by
    obtain ⟨h1, h2, h3⟩ := HN.out x (pop_mem.1 x hx)
    exact ⟨h1.fr HF4.out h2 (fun e => h3 (Option.some.inj e).symm), h2, h3⟩
  have hgR : w.heap.size ≠ g := by omega
  have hgR1 : w.heap.size + 1 ≠ g := by omega
  have hXR : w.heap.size ≠ X := by omega
  have hXR1 : w.heap.size + 1 ≠ X := by omega
  have b0 : (((w2.setCell ⟨g, 0, none⟩ (.int .i64 (F n).c)).setCell ⟨g, 1, none⟩ (.slice (some ⟨(F n).g, 0, none⟩) (F n).ns.length (F n).cap)).setCell ⟨X, 0, none⟩ (.slice (some ⟨g, 0, none⟩) n cap)).cell? ⟨w.heap.size, 0, none⟩ = some (.int .i64 0) := by rw [World.cell?_setCell_other _ _ _ _ (by simp <;> omega), World.cell?_setCell_other _ _ _ _ (by simp <;> omega), World.cell?_setCell_other _ _ _ _ (by simp <;> omega)]; exact a0
  have b1 : (((w2.setCell ⟨g, 0, none⟩ (.int .i64 (F n).c)).setCell ⟨g, 1, none⟩ (.slice (some ⟨(F n).g, 0, none⟩) (F n).ns.length (F n).cap)).setCell ⟨X, 0, none⟩ (.slice (some ⟨g, 0, none⟩) n cap)).cell? ⟨w.heap.size, 1, none⟩ = some (.slice none 0 0) := by rw [World.cell?_setCell_other _ _ _ _ (by simp <;> omega), World.cell?_setCell_other _ _ _ _ (by simp <;> omega), World.cell?_setCell_other _ _ _ _ (by simp <;> omega)]; exact a1
  have b2 : (((w2.setCell ⟨g, 0, none⟩ (.int .i64 (F n).c)).setCell ⟨g, 1, none⟩ (.slice (some ⟨(F n).g, 0, none⟩) (F n).ns.length (F n).cap)).setCell ⟨X, 0, none⟩ (.slice (some ⟨g, 0, none⟩) n cap)).frozen? ⟨w.heap.size, 0, none⟩ = false := by simp [a2]
  have b3 : (((w2.setCell ⟨g, 0, none⟩ (.int .i64 (F n).c)).setCell ⟨g, 1, none⟩ (.slice (some ⟨(F n).g, 0, none⟩) (F n).ns.length (F n).cap)).setCell ⟨X, 0, none⟩ (.slice (some ⟨g, 0, none⟩) n cap)).frozen? ⟨w.heap.size, 1, none⟩ = false := by simp [a3]
  have b4 : (((w2.setCell ⟨g, 0, none⟩ (.int .i64 (F n).c)).setCell ⟨g, 1, none⟩ (.slice (some ⟨(F n).g, 0, none⟩) (F n).ns.length (F n).cap)).setCell ⟨X, 0, none⟩ (.slice (some ⟨g, 0, none⟩) n cap)).cell? ⟨w.heap.size + 1, 0, none⟩ = some (.int .i64 (F 0).c) := by rw [World.cell?_setCell_other _ _ _ _ (by simp <;> omega), World.cell?_setCell_other _ _ _ _ (by simp <;> omega), World.cell?_setCell_other _ _ _ _ (by simp <;> omega)]; exact a4
  have b5 : (((w2.setCell ⟨g, 0, none⟩ (.int .i64 (F n).c)).setCell ⟨g, 1, none⟩ (.slice (some ⟨(F n).g, 0, none⟩) (F n).ns.length (F n).cap)).setCell ⟨X, 0, none⟩ (.slice (some ⟨g, 0, none⟩) n cap)).cell? ⟨w.heap.size + 1, 1, none⟩ = some (.slice (some ⟨(F 0).g, 0, none⟩) (F 0).ns.length (F 0).cap) := by rw [World.cell?_setCell_other _ _ _ _ (by simp <;> omega), World.cell?_setCell_other _ _ _ _ (by simp <;> omega), World.cell?_setCell_other _ _ _ _ (by simp <;> omega)]; exact a5
  have s4 : (((w2.setCell ⟨g, 0, none⟩ (.int .i64 (F n).c)).setCell ⟨g, 1, none⟩ (.slice (some ⟨(F n).g, 0, none⟩) (F n).ns.length (F n).cap)).setCell ⟨X, 0, none⟩ (.slice (some ⟨g, 0, none⟩) n cap)).heap.size = w.heap.size + 1 + 1 := by simp [World.setCell, s2]
  go_region
  go_wp2_with fail
  go_at_call 114
  refine (sink_all X n g cap (fun q => if q = 0 then F n else F q) _ HS4.out.drew hn (dn_start (F n) HO.out) (fun x hx => ⟨(HN4.out x hx).1.below ((Below.refl _ _).drew), (HN4.out x hx).2⟩)).mono ?_
  rintro e w5 ⟨rfl, hP⟩
  obtain ⟨Fr, p1, p2, p3, p4⟩ := hP
  have p4' := HFr.undrew p4
  have hs5 := p4'.2.2.2.1
  have c0 : w5.cell? ⟨w.heap.size, 0, none⟩ = some (.int .i64 0) := by rw [p4'.cell (by omega) hXR (fun e => hgR (Option.some.inj e).symm)]; exact b0
  have c1 : w5.cell? ⟨w.heap.size, 1, none⟩ = some (.slice none 0 0) := by rw [p4'.cell (by omega) hXR (fun e => hgR (Option.some.inj e).symm)]; exact b1
  have c2 : w5.frozen? ⟨w.heap.size, 0, none⟩ = false := by rw [World.frozen?_of_block (a := ⟨w.heap.size, 0, none⟩) (p4'.2.2.2.2 _ (by show w.heap.size < _; omega) hXR (fun e => hgR (Option.some.inj e).symm))]; exact b2
  have c3 : w5.frozen? ⟨w.heap.size, 1, none⟩ = false := by rw [World.frozen?_of_block (a := ⟨w.heap.size, 1, none⟩) (p4'.2.2.2.2 _ (by show w.heap.size < _; omega) hXR (fun e => hgR (Option.some.inj e).symm))]; exact b3
  have c4 : w5.cell? ⟨w.heap.size + 1, 0, none⟩ = some (.int .i64 (F 0).c) := by rw [p4'.cell (by omega) hXR1 (fun e => hgR1 (Option.some.inj e).symm)]; exact b4
  have c5 : w5.cell? ⟨w.heap.size + 1, 1, none⟩ = some (.slice (some ⟨(F 0).g, 0, none⟩) (F 0).ns.length (F 0).cap) := by rw [p4'.cell (by omega) hXR1 (fun e => hgR1 (Option.some.inj e).symm)]; exact b5
  have r0 := setR0 (x := .int .i64 (F 0).c) (y := .slice (some ⟨(F 0).g, 0, none⟩) (F 0).ns.length (F 0).cap) c0
  have r1 := setR1 (x := .int .i64 (F 0).c) (y := .slice (some ⟨(F 0).g, 0, none⟩) (F 0).ns.length (F 0).cap) c1
  have HP : Hid (PopPost w ((w5.setCell ⟨w.heap.size, 0, none⟩ (.int .i64 (F 0).c)).setCell ⟨w.heap.size, 1, none⟩ (.slice (some ⟨(F 0).g, 0, none⟩) (F 0).ns.length (F 0).cap)) X n F g cap) :=
    ⟨Fr, (HSt.far p1 hXR hgR).far hXR hgR, p2, fun x hx => pop_mem.1 x ((p3 x).1 hx), fun x hx => (pop_mem.2 x hx).imp id (p3 x).2, ((HF4.out.trans p4' (fun b _ e => e)).setCell (.inr (.inr (Nat.le_refl _))) _ _).setCell (.inr (.inr (Nat.le_refl _))) _ _⟩
  clear p1 p2 p3 p4 p4' HF4 HN4 HS4 HS3
  go_wp2_with fail
  exact bodyPost_ret (v := .agg #[.int .i64 (F 0).c, .slice (some ⟨(F 0).g, 0, none⟩) (F 0).ns.length (F 0).cap]) (by simp [results, Try.results97, go_sem, r0, r1]) rfl ⟨rfl, HP.out⟩

end Go.Proofs.Ytjenjdhoblcohaa
