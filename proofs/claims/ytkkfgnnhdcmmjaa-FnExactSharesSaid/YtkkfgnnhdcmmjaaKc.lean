/- CountWays of the program. -/
import Derived.Shelf.Abstract
import Derived.Shelf.RegionOpen
import Derived.WalkKit
import Derived.OwnWalkIn
import Derived.TacticsInMore
import Derived.LoopNIn
import Derived.LoopIn
import Derived.Test.YtkkfgnnhdcmmjaaKb
namespace Go.Proofs.Ytkkfgnnhdcmmjaa
open Go.RowKit


open Go.Shelf
attribute [local go_sem] Oper.semAt_some
theorem ten_at (s : Nat) (h : s < 10) : ([.int .i64 0, .int .i64 0, .int .i64 0, .int .i64 0, .int .i64 0, .int .i64 0, .int .i64 0, .int .i64 0, .int .i64 0, .int .i64 0] : List Value)[s]? = some (.int .i64 0) := by
  have : s = 0 ∨ s = 1 ∨ s = 2 ∨ s = 3 ∨ s = 4 ∨ s = 5 ∨ s = 6 ∨ s = 7 ∨ s = 8 ∨ s = 9 := by omega
  rcases this with rfl | rfl | rfl | rfl | rfl | rfl | rfl | rfl | rfl | rfl <;> rfl
/-- impl.stepsFrom: the function value and the two boxes that it captures. -/
theorem stepsFrom_any (N s : Int) (n cp : Nat) (ad : Option Addr) (w : World) :
    Calls Try.prog 62 #[.agg #[.int .i64 N, .slice ad n cp], .int .i64 s] w fun e w' => e = .returned (.func (.func 81) #[] #[.pointer (some ⟨w.heap.size, 0, none⟩), .pointer (some ⟨w.heap.size + 1, 0, none⟩)]) ∧
      w' = (w.alloc (.cells #[.int .i64 N, .slice ad n cp] 30)).alloc (.cells #[.int .i64 s] 3) := by
  go_enter Try.func62, Try.ntmps62
  go_wp2_with fail
  go_ret
  exact ⟨rfl, rfl⟩
theorem steps_stops (N s : Int) (lo hi n : Nat) (v : Value) (L : List Ed) (bg bf : Nat) (X : Nat → Prop) (w : World) (hG : gok N L = true) (hL : L.length = n) (hr : Row 3 w lo hi v n (flat L)) (hh : hi ≤ w.heap.size) (hs : 0 ≤ s ∧ s < N)
    (hg0 : w.cell? ⟨bg, 0, none⟩ = some (.int .i64 N)) (hg1 : w.cell? ⟨bg, 1, none⟩ = some v) (hf0 : w.cell? ⟨bf, 0, none⟩ = some (.int .i64 s)) (hX : ∀ k, X k → k < w.heap.size) :
    SeqStopsK Fence.wide 3 Try.prog 81 #[.pointer (some ⟨bg, 0, none⟩), .pointer (some ⟨bf, 0, none⟩)] encP (KpX X) (fun xs => ∃ P : List Tr, Found L s P ∧ P.length ≤ 10 ∧ xs.map Subtype.val = prs L P) (fun _ => True) 100 w := fun l J Jx W hW hJ _ hY h0 =>
  steps_in N s lo hi n v L bg bf l X J Jx W hG hL (hr.below hW hh) (Nat.le_trans hh hW.size) hs ((hW.cell (p := ⟨bg, 0, none⟩) (blk_lt hg0)).trans hg0) ((hW.cell (p := ⟨bg, 1, none⟩) (blk_lt hg1)).trans hg1) ((hW.cell (p := ⟨bf, 0, none⟩) (blk_lt hf0)).trans hf0) (fun k hk => Nat.lt_of_lt_of_le (hX k hk) hW.size) hJ hY h0
/-- The counts behind the steps that have come. -/
def stv (s : Int) (pre : List Pr) : Int → Int := (pre.map Subtype.val).foldl stW (upd (fun _ => 0) s 1)
theorem stv_snoc (s : Int) (pre : List Pr) (x : Pr) : stv s (pre ++ [x]) = stW (stv s pre) x.1 := by unfold stv; rw [List.map_append, List.foldl_append]; rfl
/-- The ten counts in block b. -/
structure WayC (W : World) (b : Nat) (f : Int → Int) : Prop where
  at_ : ∀ i : Nat, i < 10 → W.cell? ⟨b, i, none⟩ = some (.int .i64 (f i))
  fz : ∀ i : Nat, i < 10 → W.frozen? ⟨b, i, none⟩ = false
theorem WayC.own (b : Nat) (f : List Pr → Int → Int) : Own (fun pre W => WayC W b (f pre)) := fun _ _ _ _ hs hg hr =>
  ⟨fun i hi => cell_kept (hs.at_ i hi) hg hr, fun i hi => (frozen_kept (hs.at_ i hi) hg hr).trans (hs.fz i hi)⟩
theorem WayC.set {W : World} {b : Nat} {f : Int → Int} (h : WayC W b f) {j : Nat} (hj : j < 10) (z : Int) : WayC (W.setCell ⟨b, j, none⟩ (.int .i64 z)) b (upd f (j : Int) z) where
  at_ := fun i hi => by
    by_cases e : i = j
    · subst e
      rw [upd_at]
      exact World.cell?_setCell_same' _ _ _ (by rw [h.at_ i hi]; rfl)
    · rw [upd_ne (by omega), ← h.at_ i hi]
      apply World.cell?_setCell_other
      intro e'
      cases e'
      exact e rfl
  fz := fun i hi => by rw [World.frozen?_setCell]; exact h.fz i hi
theorem wrap64_i64 (n : Int) : wrap64 n = IntKind.i64.wrap n := by rw [IntKind.wrap_i64]; unfold wrap64; rfl
theorem way_end {w W : World} {m bw a b : Nat} {s : Int} {pre : List Pr} (hc : WayC W bw (stv s pre)) (hB : Below m w W) (hm : m ≤ bw) (ha : (0 ≤ (a : Int) ∧ (a : Int) < 10) ∧ (0 ≤ (b : Int) ∧ (b : Int) < 10) ∧ (a : Int) ≠ (b : Int)) {z : Int} (hz : z = IntKind.i64.wrap (stv s pre (b : Int) + stv s pre (a : Int))) :
    KeepsOthers W (W.setCell ⟨bw, b, none⟩ (.int .i64 z)).drew ∧ KpX (fun k => k = bw) W (W.setCell ⟨bw, b, none⟩ (.int .i64 z)).drew ∧ WayC (W.setCell ⟨bw, b, none⟩ (.int .i64 z)).drew bw (stv s (pre ++ [⟨((a : Int), (b : Int)), ha⟩])) ∧ Below m w (W.setCell ⟨bw, b, none⟩ (.int .i64 z)).drew := by
  have hs := hc.set (j := b) (by omega) z
  refine ⟨(KeepsOthers.setCell _ _ _).trans (KeepsOthers.drew _), KpX.of_grown (r := some bw) ?_ (fun k e => by cases e; rfl), ⟨fun i hi => ?_, fun i hi => ?_⟩, (hB.setCell (p := ⟨bw, b, none⟩) hm _).drew⟩
  · have h := grown_set (grown_refl W (some bw)) b (.int .i64 z)
    exact ⟨h.os, h.tape, h.output, h.size, h.block⟩
  · rw [stv_snoc, show stW (stv s pre) ((⟨((a : Int), (b : Int)), ha⟩ : Pr)).1 = upd (stv s pre) (b : Int) z by rw [hz]; rfl]
    exact hs.at_ i hi
  · exact hs.fz i hi

set_option maxRecDepth 100000 in
set_option maxHeartbeats 4000000 in
theorem icnt_yes (M : Nat) (lo hi n : Nat) (v : Value) (L : List Ed) (s o : Nat) (w : World) (hL : L.length = n) (hr : Row 3 w lo hi v n (flat L)) (hh : hi ≤ w.heap.size) (hG : gok (M : Int) L = true) (hs : s < M) (ho : o < M) :
    Calls Try.prog 32 #[.agg #[.int .i64 (M : Int), v], .int .i64 (s : Int), .int .i64 (o : Int)] w (fun e w' => (∃ P : List Tr, Found L (s : Int) P ∧ P.length ≤ 10 ∧ e = .returned (.int .i64 ((prs L P).foldl stW (upd (fun _ => 0) (s : Int) 1) (o : Int)))) ∧ Below w.heap.size w w') := by
  have HR := Lib.hid hr
  have HG := Lib.hid hG
  have HL := Lib.hid hL
  have hN1 := (gok_parts hG).1
  have hN2 := (gok_parts hG).2.1
  have hns : ndB (M : Int) (s : Int) = true := by unfold ndB; rw [inB_iff]; omega
  have hno : ndB (M : Int) (o : Int) = true := by unfold ndB; rw [inB_iff]; omega
  obtain ⟨ad, cp, rfl⟩ := hr.slice
  clear hr
  refine (callsIn_wide (n := 4)).1 ?_
  refine callsIn_of_wp_marks Try.func32 rfl trivial ?_ rfl
  simp only [Try.ntmps32, List.size_toArray, List.length_cons, List.length_nil, Nat.reduceAdd, Nat.reduceSub, Array.replicate_succ, Array.replicate_zero, List.push_toArray, List.append_toArray, List.nil_append, List.cons_append]
  gi_wp2_with fail
  refine ⟨trivial, ?_⟩
  gi_at_call 53
  refine CallsIn.mono (callsIn_wide.2 (igok_any (M : Int) lo hi n _ L _ hL (HR.out.below (B := w.heap.size) (by go_grown) (by omega)) (by simp; omega))) ?_
  rw [HG.out]
  rintro e v1 ⟨rfl, hb1⟩
  have sz1 : w.heap.size + 1 ≤ v1.heap.size := by have hh := hb1.size; simp at hh; omega
  have st1 : Below w.heap.size w v1 := Below.trans (by go_grown) (hb1.mono (by simp))
  have c1_0 : v1.cell? ⟨w.heap.size, 0, none⟩ = some (.int .i64 (M : Int)) := by rw [(bcell hb1).1 _ _ (by simp)]; first | (rw [new_at (by simp)]; rfl) | simp
  have c1_1 : v1.cell? ⟨w.heap.size, 1, none⟩ = some (.slice ad n cp) := by rw [(bcell hb1).1 _ _ (by simp)]; first | (rw [new_at (by simp)]; rfl) | simp
  have B1 : Hid (Below w.heap.size w v1) := st1
  have R1_0 : Hid (Row 3 v1 (lo) (hi) (.slice ad n cp) n (flat L)) := HR.out.below st1 (by omega)
  have d1_0 : w.heap.size < v1.heap.size := by omega
  have e1_0 : w.heap.size ≠ v1.heap.size := by omega
  clear st1 HR hb1
  gi_wp2_with fail
  refine ⟨trivial, ?_⟩
  gi_at_call 54
  refine CallsIn.mono (callsIn_wide.2 (hasNode_any (M : Int) _ _ _ (s : Int) _)) ?_
  rw [hns]
  rintro e v2 ⟨rfl, hb2⟩
  have sz2 : v1.heap.size ≤ v2.heap.size := hb2.size
  have st2 : Below v1.heap.size v1 v2 := hb2
  have c2_0 : v2.cell? ⟨w.heap.size, 0, none⟩ = some (.int .i64 (M : Int)) := by rw [(bcell st2).1 _ _ (by omega)]; exact c1_0
  have c2_1 : v2.cell? ⟨w.heap.size, 1, none⟩ = some (.slice ad n cp) := by rw [(bcell st2).1 _ _ (by omega)]; exact c1_1
  have B2 : Hid (Below w.heap.size w v2) := B1.out.trans (st2.mono (by omega))
  have R2_0 : Hid (Row 3 v2 (lo) (hi) (.slice ad n cp) n (flat L)) := R1_0.out.below st2 (by omega)
  have d2_0 : w.heap.size < v2.heap.size := by omega
  have e2_0 : w.heap.size ≠ v2.heap.size := by omega
  clear d1_0 e1_0 c1_0 c1_1 B1 st2 R1_0 hb2
  gi_wp2_with fail
  refine ⟨trivial, ?_⟩
  gi_at_call 54
  refine CallsIn.mono (callsIn_wide.2 (hasNode_any (M : Int) _ _ _ (o : Int) _)) ?_
  rw [hno]
  rintro e v3 ⟨rfl, hb3⟩
  have sz3 : v2.heap.size ≤ v3.heap.size := hb3.size
  have st3 : Below v2.heap.size v2 v3 := hb3
  have c3_0 : v3.cell? ⟨w.heap.size, 0, none⟩ = some (.int .i64 (M : Int)) := by rw [(bcell st3).1 _ _ (by omega)]; exact c2_0
  have c3_1 : v3.cell? ⟨w.heap.size, 1, none⟩ = some (.slice ad n cp) := by rw [(bcell st3).1 _ _ (by omega)]; exact c2_1
  have B3 : Hid (Below w.heap.size w v3) := B2.out.trans (st3.mono (by omega))
  have R3_0 : Hid (Row 3 v3 (lo) (hi) (.slice ad n cp) n (flat L)) := R2_0.out.below st3 (by omega)
  have d3_0 : w.heap.size < v3.heap.size := by omega
  have e3_0 : w.heap.size ≠ v3.heap.size := by omega
  clear d2_0 e2_0 c2_0 c2_1 B2 st3 R2_0 hb3
  clear hns hno
  have q0 : (0 : Int) ≤ (s : Int) := by omega
  have q1 : (s : Int) < 10 := by omega
  have hzL := ten_at s (by omega)
  gi_wp2_with fail
  obtain ⟨bw, hbw⟩ : ∃ q, q = v3.heap.size := ⟨_, rfl⟩
  obtain ⟨w4, hw4⟩ : ∃ q, q = v3.alloc (.cells ([.int .i64 0, .int .i64 0, .int .i64 0, .int .i64 0, .int .i64 0, .int .i64 0, .int .i64 0, .int .i64 0, .int .i64 0, .int .i64 0].set s (.int .i64 1)).toArray 70) := ⟨_, rfl⟩
  rw [← hw4, ← hbw]
  have hW4 : WayC w4 bw (upd (fun _ => 0) (s : Int) 1) := by
    refine ⟨fun i hi => ?_, fun i _ => by rw [hw4, hbw, newFrz rfl]⟩
    rw [hw4, hbw, newAt rfl]
    rw [List.getElem?_toArray, List.getElem?_set]
    by_cases e : s = i
    · subst e; rw [if_pos rfl, if_pos (by simpa using hi), upd_at]
    · rw [if_neg e, ten_at i hi, upd_ne (by omega)]
  have b4 : Below v3.heap.size v3 w4 := by rw [hw4]; exact (Below.refl _ _).alloc (Nat.le_refl _) _
  have s4 : bw + 1 ≤ w4.heap.size := by rw [hw4, hbw]; simp
  have s40 : w.heap.size ≤ bw := by omega
  have B4 := Lib.hid (B3.out.trans (b4.mono (by omega)))
  have R4 := Lib.hid (R3_0.out.below b4 (by omega))
  have HW4 := Lib.hid hW4
  have hsw : w.heap.size ≤ w4.heap.size := by omega
  clear hw4 hW4 b4 hzL hbw B3 R3_0
  refine ⟨trivial, ?_⟩
  gi_at_call 62
  refine CallsIn.mono (callsIn_wide.2 (stepsFrom_any (M : Int) (s : Int) n cp ad _)) ?_
  rintro e w5 ⟨rfl, hw5⟩
  have b5 : Below w4.heap.size w4 w5 := by rw [hw5]; exact ((Below.refl _ _).alloc (Nat.le_refl _) _).alloc (by simp) _
  have g0 : w5.cell? ⟨w4.heap.size, 0, none⟩ = some (.int .i64 (M : Int)) := by rw [hw5]; simp
  have g1 : w5.cell? ⟨w4.heap.size, 1, none⟩ = some (.slice ad n cp) := by rw [hw5]; simp
  have f0 : w5.cell? ⟨w4.heap.size + 1, 0, none⟩ = some (.int .i64 (s : Int)) := by rw [hw5, newAt (by simp)]; rfl
  have s5 : w4.heap.size + 1 + 1 ≤ w5.heap.size := by rw [hw5]; simp
  have HW5 : WayC w5 bw (upd (fun _ => 0) (s : Int) 1) := ⟨fun i hi => by rw [b5.cell (p := ⟨bw, i, none⟩) (by simp only; omega)]; exact HW4.out.at_ i hi, fun i hi => by rw [b5.frozen (p := ⟨bw, i, none⟩) (by simp only; omega)]; exact HW4.out.fz i hi⟩
  have B5 := Lib.hid (B4.out.trans (b5.mono (by omega)))
  have R5 := Lib.hid (R4.out.below b5 (by omega))
  clear hw5 b5 R4 B4 HW4
  gi_wp2_with fail
  have hmx : Try.prog.follows .mixedOrders = true := by kernel_rfl
  have hs1 : (0 : Int) ≤ (s : Int) ∧ (s : Int) < (M : Int) := ⟨by omega, by omega⟩
  refine wpIn_rangeFunc_ownF (F := Fence.wide) (n := 4) (w0 := w5) (Kp := KpX (fun k => k = bw)) (S := fun xs => ∃ P : List Tr, Found L (s : Int) P ∧ P.length ≤ 10 ∧ xs.map Subtype.val = prs L P) (Sp := fun _ => True) (N := 100) rfl (by omega) (gf := 81) (lb := #[.pointer (some ⟨w4.heap.size, 0, none⟩), .pointer (some ⟨w4.heap.size + 1, 0, none⟩)]) rfl trivial (enters_of Try.func81 (by kernel_rfl) rfl)
    (steps_stops (M : Int) (s : Int) lo hi n _ L w4.heap.size (w4.heap.size + 1) (fun k => k = bw) w5 HG.out hL R5.out (by omega) hs1 g0 g1 f0 (fun k hk => by omega))
    KpX.t (fun W l o o' h1 h2 h3 h4 => KpX.b W l o o' h1 h2 h3 h4) (Below.refl _ _) (fun _ => rfl)
    (fun pre W => WayC W bw (stv (s : Int) pre) ∧ Below w.heap.size w W) (fun _ _ _ => False)
    (OwnFrom.and (Own.from (WayC.own bw (fun pre => stv (s : Int) pre)) _) (ownFrom_below (Nat.le_refl _) (by omega)))
    (fun _ _ _ _ _ hs _ _ => hs) ⟨HW5, B5.out⟩
    (fun x => { tmps := #[.agg #[.int .i64 (M : Int), .slice ad n cp], .int .i64 (s : Int), .int .i64 (o : Int), .pointer (some ⟨w.heap.size, 0, none⟩), undef, undef, .int .i64 0, .pointer (some ⟨bw, 0, none⟩), .int .i64 x.1.1, .int .i64 x.1.2, .agg #[.int .i64 (M : Int), .slice ad n cp], .bool true, .bool false, .bool false, .agg #[.int .i64 (M : Int), .slice ad n cp], .int .i64 (s : Int), .bool true, .bool false, .bool false, .bool false, .agg #[.int .i64 (M : Int), .slice ad n cp], .int .i64 (o : Int), .bool true, .bool false, .bool false, .int .i64 (s : Int), .pointer (some ⟨bw, s, none⟩), .agg #[.int .i64 (M : Int), .slice ad n cp], .int .i64 (s : Int), .func (.func 81) #[] #[.pointer (some ⟨w4.heap.size, 0, none⟩), .pointer (some ⟨w4.heap.size + 1, 0, none⟩)], .int .i64 x.1.1, .int .i64 x.1.2, undef, undef, undef, undef, undef, undef, undef, undef, undef, undef, undef], defers := [] }) ?assign ?body ?done ?stop
  case assign =>
    intro l x W K hK
    dsimp only [encP]
    gi_wp2
    exact hK
  case body =>
    rintro l pre ⟨⟨a, b⟩, ⟨a0, a1⟩, ⟨b0, b1⟩, hab⟩ W ⟨hc, hB⟩ _
    simp only at a0 a1 b0 b1
    obtain ⟨a, rfl⟩ : ∃ q : Nat, a = (q : Int) := ⟨a.toNat, by omega⟩
    obtain ⟨b, rfl⟩ : ∃ q : Nat, b = (q : Int) := ⟨b.toNat, by omega⟩
    have za := hc.at_ a (by omega)
    have zb := hc.at_ b (by omega)
    have fb := hc.fz b (by omega)
    have Hc := Lib.hid hc
    have HB := Lib.hid hB
    clear hc hB
    gi_wp2_with fail
    gi_region_with_o (fail)
    all_goals gi_wp2
    all_goals (try go_bits)
    all_goals exact way_end Hc.out HB.out s40 _ (wrap64_i64 _)
  case done =>
    rintro D ys W hD ⟨P, hF, hP, hys⟩ ⟨hc, hB⟩ hK
    have zo := hc.at_ o (by omega)
    gi_wp2
    refine ⟨by simp, .inl ⟨_, _, rfl, run_takeDeferred hK, ?_⟩⟩
    exact ⟨_, results_tmp rfl _ _ _, ⟨P, hF, hP, by rw [stv, hys]; rfl⟩, hB.trans (belowK_b (w := w5) (by omega) W D _ _ hD hK rfl rfl)⟩
  case stop =>
    rintro D c pre W _ _ h _
    exact h.elim

end Go.Proofs.Ytkkfgnnhdcmmjaa
