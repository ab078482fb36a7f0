/- HopsTo of the program. -/
import Derived.Shelf.Abstract
import Derived.Shelf.RegionOpen
import Derived.WalkKit
import Derived.OwnWalkIn
import Derived.TacticsInMore
import Derived.LoopNIn
import Derived.LoopIn
import Derived.Maps.OwnIn
import Derived.Test.YtjenjdhoblcohaaKc
import Derived.Test.YtjenjdhoblcohaaKm
import Derived.Test.YtjenjdhoblcohaaMq
namespace Go.Proofs.Ytjenjdhoblcohaa
open Go.RowKit
open Go.Maps
open Go.RowKit Go.Shelf Go.Maps

attribute [local go_sem] Oper.semAt_some

/-- The first k of ten sets: where they lie, what they hold. -/
structure SetsS (W : World) (bs k n : Nat) (mp : Nat → Nat) (F : Nat → Int → Bool) : Prop where
  cell : ∀ i, i < k → W.cell? ⟨bs, i, none⟩ = some (.map (some (mp i)))
  set : ∀ i, i < k → SetAt W (mp i) n (F i)
  at_ : ∀ i, i < k → bs < mp i
  ne : ∀ i j, i < k → j < k → i ≠ j → mp i ≠ mp j
theorem SetsS.kept {W W' : World} {bs k n : Nat} {mp : Nat → Nat} {F : Nat → Int → Bool} {r : Option Nat} (h : SetsS W bs k n mp F) (hg : W.grownBy W' r) (h1 : some bs ≠ r) (h2 : ∀ i, i < k → some (mp i) ≠ r) : SetsS W' bs k n mp F where
  cell i hi := (World.cell?_of_block (w := W) (a := ⟨bs, i, none⟩) (hg.block bs (blk_lt (h.cell i hi)) h1)).trans (h.cell i hi)
  set i hi := (h.set i hi).kept hg (h2 i hi)
  at_ := h.at_
  ne := h.ne
theorem SetsS.below {W W' : World} {bs k n : Nat} {mp : Nat → Nat} {F : Nat → Int → Bool} (h : SetsS W bs k n mp F) (hb : Below W.heap.size W W') : SetsS W' bs k n mp F := h.kept (grown_of_below hb) (by simp) (fun _ _ => by simp)
theorem grownBy_setCellO (W : World) (b j : Nat) (u : Value) : W.grownBy (W.setCell ⟨b, j, none⟩ u) (some b) := grown_set (grown_refl W (some b)) j u
/-- A new set in the next place. -/
theorem SetsS.next {W : World} {bs k : Nat} {mp : Nat → Nat} (h : SetsS W bs k 0 mp (fun _ _ => false)) (hc : W.cell? ⟨bs, k, none⟩ = some (.map none)) (hb : bs < W.heap.size) :
    SetsS ((W.alloc (.map #[] 0)).setCell ⟨bs, k, none⟩ (.map (some W.heap.size))) bs (k + 1) 0 (fun i => if i = k then W.heap.size else mp i) (fun _ _ => false) := by
  have hal : Below W.heap.size W (W.alloc (.map #[] 0)) := (Below.refl _ _).alloc (Nat.le_refl _) _
  have h1 := h.below hal
  have hg := grownBy_setCellO (W.alloc (.map #[] 0)) bs k (.map (some W.heap.size))
  have hlt : ∀ i, i < k → mp i < W.heap.size := fun i hi => (h.set i hi).lt
  refine ⟨fun i hi => ?_, fun i hi => ?_, fun i hi => ?_, fun i j hi hj hij => ?_⟩
  · by_cases e : i = k
    · subst e
      simp only [if_true]
      exact World.cell?_setCell_same' _ _ _ (by rw [hal.cell (p := ⟨bs, i, none⟩) hb, hc]; rfl)
    · rw [if_neg e]
      rw [← h1.cell i (by omega)]
      apply World.cell?_setCell_other
      intro e'
      cases e'
      exact e rfl
  · by_cases e : i = k
    · subst e
      simp only [if_true]
      exact (SetAt.made W).kept hg (fun e => by cases e; omega)
    · simp only [if_neg e]
      exact (h1.set i (by omega)).kept hg (fun e => by have := h.at_ i (by omega); cases e; omega)
  · by_cases e : i = k
    · simp only [e, if_true]; exact hb
    · simp only [if_neg e]; exact h.at_ i (by omega)
  · by_cases e : i = k
    · subst e
      have := hlt j (by omega)
      simp only [if_true, if_neg (Ne.symm hij)]
      omega
    · by_cases e2 : j = k
      · subst e2
        have := hlt i (by omega)
        simp only [if_true, if_neg hij]
        omega
      · simp only [if_neg e, if_neg e2]
        exact h.ne i j (by omega) (by omega) hij

attribute [local go_sem] Oper.semAt_some

theorem cell_else {W : World} {b b' j i : Nat} {u : Value} (h : ¬ (b = b' ∧ j = i)) : (W.setCell ⟨b, j, none⟩ u).cell? ⟨b', i, none⟩ = W.cell? ⟨b', i, none⟩ := by
  apply World.cell?_setCell_other
  intro e
  cases e
  exact h ⟨rfl, rfl⟩
theorem Try.size100 : (Try.prog.info? 100).map (·.size) = some 10 := by kernel_rfl
/-- Ten maps as a value. -/
def mapsA (mp : Nat → Nat) : Array Value := #[.map (some (mp 0)), .map (some (mp 1)), .map (some (mp 2)), .map (some (mp 3)), .map (some (mp 4)), .map (some (mp 5)), .map (some (mp 6)), .map (some (mp 7)), .map (some (mp 8)), .map (some (mp 9))]
def nilA : Array Value := #[.map none, .map none, .map none, .map none, .map none, .map none, .map none, .map none, .map none, .map none]
theorem mapsA_one (mp : Nat → Nat) : ((mapsA mp).all fun x => x.oneCell') = true := by simp [mapsA, Value.oneCell']
/-- Ahead of round k of the loop that makes the sets. -/
structure MkS (w : World) (br bs : Nat) (W : World) (k : Nat) (N s : Int) (v : Value) : Prop where
  sets : ∃ mp, SetsS W (bs) k 0 mp (fun _ _ => false)
  rest : ∀ i, i < 10 → k ≤ i → W.cell? ⟨bs, i, none⟩ = some (.map none)
  fz : ∀ i, i < 10 → W.frozen? ⟨bs, i, none⟩ = false
  res : W.heap[br]? = some (.cells nilA 100 (0, 0))
  g0 : W.cell? ⟨w.heap.size, 0, none⟩ = some (.int .i64 N)
  g1 : W.cell? ⟨w.heap.size, 1, none⟩ = some v
  f0 : W.cell? ⟨w.heap.size + 1, 0, none⟩ = some (.int .i64 s)
  bel : Below w.heap.size w W
  ord : w.heap.size + 2 ≤ br ∧ br < bs
theorem MkS.next {w W : World} {br bs k : Nat} {N s : Int} {v : Value} (h : MkS w br bs W k N s v) (hk : k < 10) : MkS w br bs ((W.alloc (.map #[] 0)).setCell ⟨bs, k, none⟩ (.map (some W.heap.size))) (k + 1) N s v where
  sets := by
    obtain ⟨mp, hs⟩ := h.sets
    exact ⟨_, hs.next (h.rest k hk (Nat.le_refl _)) (blk_lt (h.rest k hk (Nat.le_refl _)))⟩
  rest i hi hki := by
    have hb := blk_lt (h.rest i hi (by omega))
    have hal : Below W.heap.size W (W.alloc (.map #[] 0)) := (Below.refl _ _).alloc (Nat.le_refl _) _
    rw [cell_else (by have := h.ord; omega), hal.cell (p := ⟨bs, i, none⟩) hb]
    exact h.rest i hi (by omega)
  fz i hi := by
    have hb := blk_lt (h.rest k hk (Nat.le_refl _))
    have hal : Below W.heap.size W (W.alloc (.map #[] 0)) := (Below.refl _ _).alloc (Nat.le_refl _) _
    rw [World.frozen?_setCell, hal.frozen (p := ⟨bs, i, none⟩) hb]
    exact h.fz i hi
  res := by
    have hb := (Array.getElem?_eq_some_iff.1 h.res).1
    rw [(grownBy_setCellO (W.alloc (.map #[] 0)) (bs) k (.map (some W.heap.size))).block _ (by simp; omega) (fun e => by have := h.ord; have e' := Option.some.inj e; omega), ((Below.refl W.heap.size W).alloc (Nat.le_refl _) (.map #[] 0)).block _ hb]
    exact h.res
  g0 := by
    have hb := blk_lt h.g0
    rw [cell_else (by have := h.ord; omega), ((Below.refl W.heap.size W).alloc (Nat.le_refl _) (.map #[] 0)).cell (p := ⟨w.heap.size, 0, none⟩) hb]
    exact h.g0
  g1 := by
    have hb := blk_lt h.g1
    rw [cell_else (by have := h.ord; omega), ((Below.refl W.heap.size W).alloc (Nat.le_refl _) (.map #[] 0)).cell (p := ⟨w.heap.size, 1, none⟩) hb]
    exact h.g1
  f0 := by
    have hb := blk_lt h.f0
    rw [cell_else (by have := h.ord; omega), ((Below.refl W.heap.size W).alloc (Nat.le_refl _) (.map #[] 0)).cell (p := ⟨w.heap.size + 1, 0, none⟩) hb]
    exact h.f0
  bel := (h.bel.alloc h.bel.size _).setCell (p := ⟨bs, k, none⟩) (by have := h.ord; simp only; omega) _
  ord := h.ord

theorem wf_node {x : Int} (h0 : 0 ≤ x) (h1 : x < 10) : (Lit.int .i64 x).wf = true := by
  have : x = 0 ∨ x = 1 ∨ x = 2 ∨ x = 3 ∨ x = 4 ∨ x = 5 ∨ x = 6 ∨ x = 7 ∨ x = 8 ∨ x = 9 := by omega
  rcases this with rfl | rfl | rfl | rfl | rfl | rfl | rfl | rfl | rfl | rfl <;> decide
/-- The sets behind the steps that have come. -/
def sth (s : Int) (pre : List Pr) : Int → Int → Bool := (pre.map Subtype.val).foldl (stH s) (fun _ _ => false)
theorem sth_snoc (s : Int) (pre : List Pr) (x : Pr) : sth s (pre ++ [x]) = stH s (sth s pre) x.1 := by unfold sth; rw [List.map_append, List.foldl_append]; rfl
/-- Between two rounds. -/
structure HopI (w w5 : World) (br bs : Nat) (mp : Nat → Nat) (s : Int) (pre : List Pr) (W : World) : Prop where
  sets : SetsS W bs 10 (11 * pre.length) mp (fun i z => sth s pre (i : Int) z)
  res : W.heap[br]? = some (.cells nilA 100 (0, 0))
  from_ : W.cell? ⟨w.heap.size + 1, 0, none⟩ = some (.int .i64 s)
  bel : Below w.heap.size w W
  size : w5.heap.size ≤ W.heap.size
theorem HopI.own {w w5 : World} {br bs : Nat} {mp : Nat → Nat} {s : Int} (hm : ∀ i, i < 10 → mp i < w5.heap.size) (hbb : br < w5.heap.size ∧ bs < w5.heap.size ∧ w.heap.size + 1 < w5.heap.size) : OwnFrom w5.heap.size (fun pre W => HopI w w5 br bs mp s pre W) := fun _ A B row hs hg hr => by
  have hrow : ∀ k, row = some k → w5.heap.size ≤ k := fun k e => (hr k e).1
  refine ⟨hs.sets.kept hg (fun e => by have := hrow _ e.symm; omega) (fun i hi e => by have := hrow _ e.symm; have := hm i hi; omega), ?_, ?_, ?_, Nat.le_trans hs.size hg.size⟩
  · rw [hg.block br (by have := hs.size; omega) (fun e => by have := hrow _ e.symm; omega)]; exact hs.res
  · rw [World.cell?_of_block (w := A) (a := ⟨w.heap.size + 1, 0, none⟩) (hg.block (w.heap.size + 1) (by have := hs.size; omega) (fun e => by have := hrow _ e.symm; omega))]; exact hs.from_
  · exact hs.bel.trans (below_gr hg (by have := hs.size; omega) (fun k e => by have := hrow k e; omega))

theorem SetsS.congr {W : World} {bs k n : Nat} {mp : Nat → Nat} {F G : Nat → Int → Bool} (h : SetsS W bs k n mp F) (e : ∀ i z, F i z = G i z) : SetsS W bs k n mp G := ⟨h.cell, fun i hi => (h.set i hi).congr (e i), h.at_, h.ne⟩
theorem grown_setRow (w : World) (g : Nat) (cs : Array Value) : w.grownBy (w.setRow g cs) (some g) := ⟨rfl, rfl, rfl, by rw [size_setRow]; exact Nat.le_refl _, fun k _ h => setRow_other w g k cs (fun e => h (by rw [e]))⟩
theorem grown_drew {w w' : World} {r : Option Nat} (h : w.drew.grownBy w' r) : w.grownBy w' r := ⟨h.os, h.tape, h.output, h.size, h.block⟩
theorem HopI.done {w w5 W W' : World} {br bs a b : Nat} {mp : Nat → Nat} {s : Int} {pre : List Pr} {g : Int → Bool} {x : Pr} (h : HopI w w5 br bs mp s pre W) (hg : W.grownBy W' (some (mp b))) (hb : b < 10) (hmb : mp b < w5.heap.size) (hw : w.heap.size + 1 < br ∧ br < bs)
    (hs : SetAt W' (mp b) (11 * pre.length + 11) g) (hx : x.1 = ((a : Int), (b : Int))) (hG : ∀ z, g z = (sth s pre (b : Int) z || (sth s pre (a : Int) z || (decide ((a : Int) = s) && decide (z = (b : Int)))))) :
    KeepsFrom w5.heap.size W W' ∧ KpX (fun _ => False) W W' ∧ HopI w w5 br bs mp s (pre ++ [x]) W' := by
  have hbm := h.sets.at_ b hb
  have e1 : ∀ i z, sth s (pre ++ [x]) i z = if i = (b : Int) then sth s pre i z || (sth s pre (a : Int) z || (decide ((a : Int) = s) && decide (z = i))) else sth s pre i z := fun i z => by
    rw [sth_snoc, hx]
    rfl
  refine ⟨KeepsFrom.of_grownBy hg (fun j e => by cases e; exact hmb), ⟨hg.size, fun k o _ hk hc => ?_⟩, ⟨⟨fun i hi => ?_, fun i hi => ?_, h.sets.at_, h.sets.ne⟩, ?_, ?_, ?_, Nat.le_trans h.size hg.size⟩⟩
  · rw [hg.block k (Array.getElem?_eq_some_iff.1 hk).1 (fun e => by
      cases e
      obtain ⟨D, ⟨es, ck, hh, _⟩, _⟩ := h.sets.set b hb
      rw [hh] at hk
      cases hk
      cases hc)]
    exact hk
  · rw [World.cell?_of_block (w := W) (a := ⟨bs, i, none⟩) (hg.block bs (blk_lt (h.sets.cell i hi)) (fun e => by have e' := Option.some.inj e; omega))]
    exact h.sets.cell i hi
  · rw [List.length_append, List.length_singleton]
    by_cases e : i = b
    · subst e
      refine (hs.mono (by omega)).congr (fun z => ?_)
      rw [hG z, e1, if_pos rfl]
    · refine (((h.sets.set i hi).kept hg (fun e' => h.sets.ne i b hi hb e (Option.some.inj e'))).mono (by omega)).congr (fun z => ?_)
      rw [e1, if_neg (by omega)]
  · rw [hg.block br (by have := (Array.getElem?_eq_some_iff.1 h.res).1; omega) (fun e => by have e' := Option.some.inj e; omega)]
    exact h.res
  · rw [World.cell?_of_block (w := W) (a := ⟨w.heap.size + 1, 0, none⟩) (hg.block (w.heap.size + 1) (blk_lt h.from_) (fun e => by have e' := Option.some.inj e; omega))]
    exact h.from_
  · exact h.bel.trans (below_gr hg (h.bel.size) (fun k e => by cases e; omega))

set_option maxRecDepth 100000 in
set_option maxHeartbeats 4000000 in
theorem hopsets_any (M : Nat) (lo hi n : Nat) (v : Value) (L : List Ed) (s : Nat) (w : World) (hL : L.length = n) (hr : Row 3 w lo hi v n (flat L)) (hh : hi ≤ w.heap.size) (hG : gok (M : Int) L = true) (hs : s < M) :
    Calls Try.prog 77 #[.agg #[.int .i64 (M : Int), v], .int .i64 (s : Int)] w (fun e w' => (∃ mp, e = .returned (.agg (mapsA mp)) ∧ ∃ q bs, w.heap.size ≤ bs ∧ SetsS w' bs 10 q mp (fun i z => decide (tgP (M : Int) L (i : Int) (s : Int) z))) ∧ Below w.heap.size w w') := by
  have HR := Lib.hid hr
  have HG := Lib.hid hG
  have HL := Lib.hid hL
  have hN1 := (gok_parts hG).1
  have hN2 := (gok_parts hG).2.1
  obtain ⟨ad, cp, rfl⟩ := hr.slice
  clear hr
  have hmm := @run_makeMap Try.prog
  refine (callsIn_wide (n := 4)).1 ?_
  refine callsIn_of_wp_marks Try.func77 rfl trivial ?_ rfl
  simp only [Try.ntmps77, List.size_toArray, List.length_cons, List.length_nil, Nat.reduceAdd, Nat.reduceSub, Array.replicate_succ, Array.replicate_zero, List.push_toArray, List.append_toArray, List.nil_append, List.cons_append]
  gi_wp2_with fail
  obtain ⟨w0, hw0⟩ : ∃ q, q = ((((w.alloc (.cells #[.int .i64 (M : Int), .slice ad n cp] 29)).alloc (.cells #[.int .i64 (s : Int)] 3)).alloc (.cells nilA 100)).alloc (.cells nilA 100)) := ⟨_, rfl⟩
  obtain ⟨bs, hbs⟩ : ∃ q, q = w.heap.size + 1 + 1 + 1 := ⟨_, rfl⟩
  obtain ⟨br, hbr⟩ : ∃ q, q = w.heap.size + 1 + 1 := ⟨_, rfl⟩
  have H0 : Hid (MkS w br bs w0 0 (M : Int) (s : Int) (.slice ad n cp)) := by
    refine ⟨⟨fun _ => 0, fun i hi => absurd hi (Nat.not_lt_zero _), fun i hi => absurd hi (Nat.not_lt_zero _), fun i hi => absurd hi (Nat.not_lt_zero _), fun i _ hi => absurd hi (Nat.not_lt_zero _)⟩, fun i hi _ => ?_, fun i _ => ?_, ?_, ?_, ?_, ?_, ?_, ⟨by omega, by omega⟩⟩
    · rw [hw0, hbs, newAt (by simp)]
      have : i = 0 ∨ i = 1 ∨ i = 2 ∨ i = 3 ∨ i = 4 ∨ i = 5 ∨ i = 6 ∨ i = 7 ∨ i = 8 ∨ i = 9 := by omega
      rcases this with rfl | rfl | rfl | rfl | rfl | rfl | rfl | rfl | rfl | rfl <;> rfl
    · rw [hw0, hbs, newFrz (by simp)]
    · rw [hw0, hbr, ((Below.refl _ _).alloc (Nat.le_refl _) _).block (w.heap.size + 1 + 1) (by simp)]
      have e : w.heap.size + 1 + 1 = ((w.alloc (.cells #[.int .i64 (M : Int), .slice ad n cp] 29)).alloc (.cells #[.int .i64 (s : Int)] 3)).heap.size := by simp
      rw [e]
      exact Go.World.alloc_heap_new _ _
    · rw [hw0, old_box (by simp <;> omega), old_box (by simp <;> omega), old_box (by simp <;> omega), newAt rfl]; rfl
    · rw [hw0, old_box (by simp <;> omega), old_box (by simp <;> omega), old_box (by simp <;> omega), newAt rfl]; rfl
    · rw [hw0, old_box (by simp <;> omega), old_box (by simp <;> omega), newAt (by simp)]; rfl
    · rw [hw0]; exact ((((Below.refl _ w).alloc (Nat.le_refl _) _).alloc (by simp) _).alloc (by simp <;> omega) _).alloc (by simp <;> omega) _
  have Hw0 := Lib.hid hw0
  clear hw0
  show Code.wpIn _ _ _ _ _ _ (((((w.alloc (.cells #[.int .i64 (M : Int), .slice ad n cp] 29)).alloc (.cells #[.int .i64 (s : Int)] 3)).alloc (.cells nilA 100)).alloc (.cells nilA 100)))
  rw [← Hw0.out, ← hbs, ← hbr]
  clear Hw0 hbs hbr
  gi_loopw [9] (fun i wr => ∃ k : Nat, k ≤ 10 ∧ i = .int .i64 (k : Int) ∧ Hid (MkS w br bs wr k (M : Int) (s : Int) (.slice ad n cp))) (fun i _ => 10 - (intOf i).toNat)
  case atStart => exact ⟨0, Nat.zero_le _, rfl, H0⟩
  case round =>
    obtain ⟨k, hk, rfl, hS⟩ := hrel
    by_cases hlt : k < 10
    · have q0 : (0 : Int) ≤ (k : Int) := by omega
      have q1 : (k : Int) < 10 := by omega
      have hc := hS.out.rest k hlt (Nat.le_refl _)
      have hf := hS.out.fz k hlt
      have hb := blk_lt hc
      have HS := hS.out.next hlt
      rw [World.setCell_alloc_past _ bs k _ hb] at HS
      replace HS := Lib.hid HS
      have hal : Below wr.heap.size wr (wr.alloc (.map #[] 0)) := (Below.refl _ _).alloc (Nat.le_refl _) _
      have hc2 : (wr.alloc (.map #[] 0)).cell? ⟨bs, k, none⟩ = some (.map none) := (hal.cell (p := ⟨bs, k, none⟩) hb).trans hc
      have hf2 : (wr.alloc (.map #[] 0)).frozen? ⟨bs, k, none⟩ = false := (hal.frozen (p := ⟨bs, k, none⟩) hb).trans hf
      clear hal hS hc hf
      gi_wp2_with fail
      go_roundw
      case rel => exact ⟨k + 1, by omega, by go_num, HS⟩
      case measure => simp [intOf]; omega
    · obtain rfl : k = 10 := by omega
      have hge : ¬ (((10 : Nat) : Int) < 10) := by omega
      have g0 := hS.out.g0
      have g1 := hS.out.g1
      have f0 := hS.out.f0
      obtain ⟨wl, hwl⟩ : ∃ q, q = wr := ⟨_, rfl⟩
      rw [← hwl] at hS g0 g1 f0 ⊢
      clear hwl
      obtain ⟨mp, hsets⟩ := hS.out.sets
      have hbs : bs < wl.heap.size := blk_lt (hsets.cell 0 (by omega))
      have hres := hS.out.res
      have hord := hS.out.ord
      have hbel := hS.out.bel
      have hRl := Lib.hid (HR.out.below hbel hh)
      have hwl := hbel.size
      have Hsets := Lib.hid hsets
      have Hres := Lib.hid hres
      have Hbel := Lib.hid hbel
      have hlb : w.heap.size + 1 < wl.heap.size := blk_lt f0
      have F0 := Lib.hid f0
      clear hS hsets hres hbel
      gi_wp2_with fail
      refine ⟨trivial, ?_⟩
      gi_at_call 74
      refine CallsIn.mono (callsIn_wide.2 (stepsFrom_any (M : Int) (s : Int) n cp ad _)) ?_
      rintro e w5 ⟨rfl, hw5⟩
      have b5 : Below wl.heap.size wl w5 := by rw [hw5]; exact ((Below.refl _ _).alloc (Nat.le_refl _) _).alloc (by simp) _
      have h0 : w5.cell? ⟨wl.heap.size, 0, none⟩ = some (.int .i64 (M : Int)) := by rw [hw5]; simp
      have h1 : w5.cell? ⟨wl.heap.size, 1, none⟩ = some (.slice ad n cp) := by rw [hw5]; simp
      have h2 : w5.cell? ⟨wl.heap.size + 1, 0, none⟩ = some (.int .i64 (s : Int)) := by rw [hw5, newAt (by simp)]; rfl
      have s5 : wl.heap.size + 1 + 1 ≤ w5.heap.size := by rw [hw5]; simp
      have f5 : w5.cell? ⟨w.heap.size + 1, 0, none⟩ = some (.int .i64 (s : Int)) := (b5.cell (p := ⟨w.heap.size + 1, 0, none⟩) hlb).trans F0.out
      have S5 := Hsets.out.below b5
      have r5 : w5.heap[br]? = some (.cells nilA 100 (0, 0)) := by rw [b5.block br (by omega)]; exact Hres.out
      have B5 := Hbel.out.trans (b5.mono hwl)
      have R5 := Lib.hid (hRl.out.below b5 (by omega))
      clear hw5 b5 hRl g0 g1 f0 Hsets Hres Hbel hmm
      gi_wp2_with fail
      have hmx : Try.prog.follows .mixedOrders = true := by kernel_rfl
      have hs1 : (0 : Int) ≤ (s : Int) ∧ (s : Int) < (M : Int) := ⟨by omega, by omega⟩
      have hmpl : ∀ i, i < 10 → mp i < w5.heap.size := fun i hi => (S5.set i hi).lt
      have Hmpl := Lib.hid hmpl
      clear hmpl
      refine wpIn_rangeFunc_ownG (F := Fence.wide) (n := 4) (w0 := w5) (Kp := KpX (fun _ => False)) (S := fun xs => ∃ P : List Tr, Found L (s : Int) P ∧ P.length ≤ 10 ∧ xs.map Subtype.val = prs L P) (Sp := fun _ => True) (N := 100) rfl (by omega) (gf := 99) (lb := #[.pointer (some ⟨wl.heap.size, 0, none⟩), .pointer (some ⟨wl.heap.size + 1, 0, none⟩)]) rfl trivial (enters_of Try.func99 (by kernel_rfl) rfl)
        (steps_stops (M : Int) (s : Int) lo hi n _ L wl.heap.size (wl.heap.size + 1) (fun _ => False) w5 HG.out hL R5.out (by omega) hs1 h0 h1 h2 (fun k hk => hk.elim))
        KpX.t (fun W l o o' h1 h2 h3 h4 => KpX.b W l o o' h1 h2 h3 h4) (Below.refl _ _) (fun _ => rfl)
        (fun pre W => HopI w w5 br bs mp (s : Int) pre W) (fun _ _ _ => False)
        (HopI.own Hmpl.out (by omega)) (fun _ _ _ _ _ hs _ _ => hs) ⟨S5, r5, f5, B5, Nat.le_refl _⟩
        (fun x => { tmps := #[.agg #[.int .i64 (M : Int), .slice ad n cp], .int .i64 (s : Int), .pointer (some ⟨w.heap.size, 0, none⟩), .pointer (some ⟨w.heap.size + 1, 0, none⟩), .pointer (some ⟨br, 0, none⟩), .pointer (some ⟨bs, 0, none⟩), u6, .int .i64 x.1.1, .int .i64 x.1.2, .int .i64 10, .bool false, u11, u12, u13, u14, u15, .agg #[.int .i64 (M : Int), .slice ad n cp], .int .i64 (s : Int), .func (.func 99) #[] #[.pointer (some ⟨wl.heap.size, 0, none⟩), .pointer (some ⟨wl.heap.size + 1, 0, none⟩)], .int .i64 x.1.1, .int .i64 x.1.2, undef, undef, undef, undef, undef, undef, undef, undef, undef, undef, undef, undef, undef, undef, undef], defers := [] }) ?assign ?body ?done ?stop
      case assign =>
        intro l x W K hK
        dsimp only [encP]
        gi_wp2
        exact hK
      case body =>
        rintro l pre ⟨⟨a, b⟩, ⟨a0, a1⟩, ⟨b0, b1⟩, hab⟩ W hI hlt
        simp only at a0 a1 b0 b1 hab
        obtain ⟨a, rfl⟩ : ∃ q : Nat, a = (q : Int) := ⟨a.toNat, by omega⟩
        obtain ⟨b, rfl⟩ : ∃ q : Nat, b = (q : Int) := ⟨b.toNat, by omega⟩
        have za := hI.sets.cell a (by omega)
        have zb := hI.sets.cell b (by omega)
        have zf := hI.from_
        have hsa := hI.sets.set a (by omega)
        have hsb := hI.sets.set b (by omega)
        have hnab := hI.sets.ne b a (by omega) (by omega) (fun e => hab (by rw [e]))
        have hbb := hI.sets.at_ b (by omega)
        have hml := Hmpl.out b (by omega)
        have HI := Lib.hid hI
        have Hsa := Lib.hid hsa
        have hbl : bs < W.heap.size := blk_lt za
        clear hI hsa
        have hroom : 11 * pre.length + 11 ≤ maxLen := by unfold maxLen; omega
        have hroom2 : 11 * pre.length + 10 ≤ maxLen := by unfold maxLen; omega
        have hroom3 : 11 * pre.length < maxLen := by unfold maxLen; omega
        have hroom4 : 11 * pre.length + 1 + 10 ≤ maxLen := by unfold maxLen; omega
        by_cases hxs : (a : Int) = (s : Int)
        · obtain rfl : s = a := by omega
          clear hxs
          obtain ⟨D, hown, hset⟩ := hsb
          have Hset := Lib.hid hset
          clear hset
          have hwf : (Lit.int .i64 (b : Int)).wf = true := wf_node (by omega) (by omega)
          gi_wp2_with (gi_at_mapUpdate; refine wpListIn_mapUpdate_own _ rfl _ _ _ 99 rfl 3 4 KI Try.underlying99 (plainElem Try.prog 4) (mp b) (11 * pre.length) _ rfl hown hroom3 _ _ _ rfl rfl (Maps.keyOf_int_mk Try.underlying3 hwf) _ [] (plainElem_bool Try.underlying4 true) ?_; intro w1 hown1 hgrow1)
          have s1 : SetAt w1 (mp b) (11 * pre.length + 1) (fun z => sth (s : Int) pre (b : Int) z || decide (z = (b : Int))) := ⟨_, hown1, Hset.out.put ⟨b0, b1⟩⟩
          have s2 : SetAt w1 (mp s) (11 * pre.length) (fun z => sth (s : Int) pre (s : Int) z) := Hsa.out.kept hgrow1 (fun e => hnab (Option.some.inj e).symm)
          have ya : w1.cell? ⟨bs, s, none⟩ = some (.map (some (mp s))) := (World.cell?_of_block (w := W) (a := ⟨bs, s, none⟩) (hgrow1.block bs hbl (fun e => by have e' := Option.some.inj e; omega))).trans za
          have yb : w1.cell? ⟨bs, b, none⟩ = some (.map (some (mp b))) := (World.cell?_of_block (w := W) (a := ⟨bs, b, none⟩) (hgrow1.block bs hbl (fun e => by have e' := Option.some.inj e; omega))).trans zb
          have HG1 := Lib.hid hgrow1
          clear hown hown1 hgrow1 za zb zf Hset
          gi_region_with_o (refine ⟨trivial, ?_⟩; gi_at_call 100; refine (CallsIn.inRound l (callsIn_wide.2 (copy_any (mp b) (mp s) _ _ _ _ w1.drew s1 s2 hnab hroom4))).mono ?_; rintro e w2 ⟨rfl, hs2, hg2⟩)
          all_goals gi_wp2
          all_goals (try go_bits)
          all_goals exact HopI.done HI.out (HG1.out.andThen (grown_drew hg2) (fun j hj => .inr hj)) (by omega) hml ⟨by omega, hord.2⟩ (hs2.mono (by omega)) rfl (fun z => by cases sth (s : Int) pre (b : Int) z <;> cases sth (s : Int) pre (s : Int) z <;> simp)
        · have e1 : ((a : Int) == (s : Int)) = false := by simp [hxs]
          have s2 : SetAt W (mp a) (11 * pre.length) (fun z => sth (s : Int) pre (a : Int) z) := Hsa.out
          gi_wp2_with fail
          gi_region_with_o (refine ⟨trivial, ?_⟩; gi_at_call 100; refine (CallsIn.inRound l (callsIn_wide.2 (copy_any (mp b) (mp a) _ _ _ _ W.drew hsb s2 hnab hroom2))).mono ?_; rintro e w2 ⟨rfl, hs2, hg2⟩)
          all_goals gi_wp2
          all_goals (try go_bits)
          all_goals exact HopI.done HI.out (grown_drew hg2) (by omega) hml ⟨by omega, hord.2⟩ (hs2.mono (by omega)) rfl (fun z => by simp [hxs])
      case done =>
        rintro D ys W hD ⟨P, hF, hP, hys⟩ hI hK
        have z0 := hI.sets.cell 0 (by omega)
        have z1 := hI.sets.cell 1 (by omega)
        have z2 := hI.sets.cell 2 (by omega)
        have z3 := hI.sets.cell 3 (by omega)
        have z4 := hI.sets.cell 4 (by omega)
        have z5 := hI.sets.cell 5 (by omega)
        have z6 := hI.sets.cell 6 (by omega)
        have z7 := hI.sets.cell 7 (by omega)
        have z8 := hI.sets.cell 8 (by omega)
        have z9 := hI.sets.cell 9 (by omega)
        have HI := Lib.hid hI
        have HK := Lib.hid hK
        have HF := Lib.hid hF
        have Hys := Lib.hid hys
        clear hI hK hF hys
        gi_wp2_with (refine storeIn_row rfl 100 _ _ rfl rfl br (mapsA mp) rfl rfl 100 nilA HI.out.res (by rw [Try.size100]; rfl) rfl (mapsA_one mp) ?_)
        have hD2 : D ≠ br := by have := hD; omega
        have hK' : (W.setRow br (mapsA mp)).heap[D]? = some (.deferred (some [])) := (setRow_other W br D _ hD2).trans HK.out
        refine ⟨by simp, .inl ⟨_, _, rfl, run_takeDeferred hK', ?_⟩⟩
        have hg1 := grown_setRow W br (mapsA mp)
        have hg2 := grownBy_putObj' (W.setRow br (mapsA mp)) D (.deferred none)
        have hbm := HI.out.sets.at_
        have hsz := HI.out.size
        have hS1 := (HI.out.sets.kept hg1 (fun e => by have e' := Option.some.inj e; omega) (fun i hi e => by have e' := Option.some.inj e; have := hbm i hi; omega)).kept hg2 (fun e => by have e' := Option.some.inj e; omega) (fun i hi e => by have e' := Option.some.inj e; have := Hmpl.out i hi; omega)
        refine ⟨_, results_cell_row rfl _ _ br 100 (mapsA mp) (0, 0) _ rfl ((World.putObj_heap_other (Ne.symm hD2)).trans (setRow_heap W br nilA (mapsA mp) 100 (0, 0) HI.out.res)) Try.underlying100 rfl (by rw [Try.size100]; rfl), ⟨mp, rfl, _, bs, by omega, hS1.congr (fun i z => ?_)⟩, ?_⟩
        · show sth (s : Int) ys (i : Int) z = _
          unfold sth
          rw [Hys.out]
          exact hops_all HG.out hs1 HF.out (i : Int) z
        · have b1 := below_setRow HI.out.bel (show w.heap.size ≤ br by omega) (mapsA mp)
          exact b1.trans (below_gr hg2 b1.size (fun k e => by have e' := Option.some.inj e; omega))
      case stop =>
        rintro D c pre W _ _ h _
        exact h.elim

/-- A list of nodes of its own. -/
def LiPost (Z : List Int) (w : World) (e : Ending) (w' : World) : Prop := ∃ rv, e = .returned rv ∧ Row 1 w' w.heap.size w'.heap.size rv Z.length Z ∧ Below w.heap.size w w'
/-- What HopsTo answers. -/
def hopsL (N : Int) (L : List Ed) (x y : Int) : List Int := if gok N L = true ∧ ndB N x = true ∧ ndB N y = true then setL (fun z => decide (tgP N L y x z)) else []
theorem Row.wider {k : Nat} {w : World} {lo lo' hi n : Nat} {v : Value} {Z : List Int} (h : Row k w lo hi v n Z) (hl : lo' ≤ lo) : Row k w lo' hi v n Z := by
  obtain ⟨h0, h | ⟨g, cap, h1, h2, h3⟩⟩ := h
  · exact ⟨h0, .inl h⟩
  · exact ⟨h0, .inr ⟨g, cap, h1, by omega, h3⟩⟩
theorem index77 (mp : Nat → Nat) (o : Nat) (ho : o < 10) (w : World) : (Instr.index 100 (.agg (mapsA mp)) (.int .i64 (o : Int))).run Try.prog w = .ok (.map (some (mp o))) w := by
  have : o = 0 ∨ o = 1 ∨ o = 2 ∨ o = 3 ∨ o = 4 ∨ o = 5 ∨ o = 6 ∨ o = 7 ∨ o = 8 ∨ o = 9 := by omega
  rcases this with rfl | rfl | rfl | rfl | rfl | rfl | rfl | rfl | rfl | rfl <;> simp [Instr.index, run_underlying Try.underlying100, asIntOf, go_sem, part, mapsA]

set_option maxRecDepth 100000 in
set_option maxHeartbeats 2400000 in
theorem ihop_no0 (N : Int) (lo hi n : Nat) (v : Value) (L : List Ed) (x y : Int) (w : World) (hL : L.length = n) (hr : Row 3 w lo hi v n (flat L)) (hh : hi ≤ w.heap.size) (hn : gok N L = false) :
    Calls Try.prog 42 #[.agg #[.int .i64 N, v], .int .i64 x, .int .i64 y] w (LiPost [] w) := by
  have HR := Lib.hid hr
  have Hn := Lib.hid hn
  obtain ⟨ad, cp, rfl⟩ := hr.slice
  clear hr hn
  go_enter Try.func42, Try.ntmps42
  go_wp2_with fail
  go_at_call 51
  refine (igok_any N lo hi n _ L _ hL (HR.out.below (B := w.heap.size) (by go_grown) (by omega)) (by simp; omega)).mono ?_
  rw [Hn.out]
  rintro e v1 ⟨rfl, hb1⟩
  have sz1 : w.heap.size + 1 ≤ v1.heap.size := by have hh := hb1.size; simp at hh; omega
  have st1 : Below w.heap.size w v1 := Below.trans (by go_grown) (hb1.mono (by simp))
  have c1_0 : v1.cell? ⟨w.heap.size, 0, none⟩ = some (.int .i64 N) := by rw [(bcell hb1).1 _ _ (by simp)]; first | (rw [new_at (by simp)]; rfl) | simp
  have c1_1 : v1.cell? ⟨w.heap.size, 1, none⟩ = some (.slice ad n cp) := by rw [(bcell hb1).1 _ _ (by simp)]; first | (rw [new_at (by simp)]; rfl) | simp
  have B1 : Hid (Below w.heap.size w v1) := st1
  have R1_0 : Hid (Row 3 v1 (lo) (hi) (.slice ad n cp) n (flat L)) := HR.out.below st1 (by omega)
  have d1_0 : w.heap.size < v1.heap.size := by omega
  have e1_0 : w.heap.size ≠ v1.heap.size := by omega
  clear st1 HR hb1
  go_wp2_with fail
  go_ret
  exact ⟨_, rfl, Row.empty 1 _ _ _ _ _, B1.out⟩

set_option maxRecDepth 100000 in
set_option maxHeartbeats 2400000 in
theorem ihop_no1 (N : Int) (lo hi n : Nat) (v : Value) (L : List Ed) (x y : Int) (w : World) (hL : L.length = n) (hr : Row 3 w lo hi v n (flat L)) (hh : hi ≤ w.heap.size) (hn : gok N L = true ∧ ndB N x = false) :
    Calls Try.prog 42 #[.agg #[.int .i64 N, v], .int .i64 x, .int .i64 y] w (LiPost [] w) := by
  have HR := Lib.hid hr
  have Hn := Lib.hid hn
  obtain ⟨ad, cp, rfl⟩ := hr.slice
  clear hr hn
  go_enter Try.func42, Try.ntmps42
  go_wp2_with fail
  go_at_call 51
  refine (igok_any N lo hi n _ L _ hL (HR.out.below (B := w.heap.size) (by go_grown) (by omega)) (by simp; omega)).mono ?_
  rw [Hn.out.1]
  rintro e v1 ⟨rfl, hb1⟩
  have sz1 : w.heap.size + 1 ≤ v1.heap.size := by have hh := hb1.size; simp at hh; omega
  have st1 : Below w.heap.size w v1 := Below.trans (by go_grown) (hb1.mono (by simp))
  have c1_0 : v1.cell? ⟨w.heap.size, 0, none⟩ = some (.int .i64 N) := by rw [(bcell hb1).1 _ _ (by simp)]; first | (rw [new_at (by simp)]; rfl) | simp
  have c1_1 : v1.cell? ⟨w.heap.size, 1, none⟩ = some (.slice ad n cp) := by rw [(bcell hb1).1 _ _ (by simp)]; first | (rw [new_at (by simp)]; rfl) | simp
  have B1 : Hid (Below w.heap.size w v1) := st1
  have R1_0 : Hid (Row 3 v1 (lo) (hi) (.slice ad n cp) n (flat L)) := HR.out.below st1 (by omega)
  have d1_0 : w.heap.size < v1.heap.size := by omega
  have e1_0 : w.heap.size ≠ v1.heap.size := by omega
  clear st1 HR hb1
  go_wp2_with fail
  go_at_call 52
  refine (hasNode_any N _ _ _ x _).mono ?_
  rw [Hn.out.2]
  rintro e v2 ⟨rfl, hb2⟩
  have sz2 : v1.heap.size ≤ v2.heap.size := hb2.size
  have st2 : Below v1.heap.size v1 v2 := hb2
  have c2_0 : v2.cell? ⟨w.heap.size, 0, none⟩ = some (.int .i64 N) := by rw [(bcell st2).1 _ _ (by omega)]; exact c1_0
  have c2_1 : v2.cell? ⟨w.heap.size, 1, none⟩ = some (.slice ad n cp) := by rw [(bcell st2).1 _ _ (by omega)]; exact c1_1
  have B2 : Hid (Below w.heap.size w v2) := B1.out.trans (st2.mono (by omega))
  have R2_0 : Hid (Row 3 v2 (lo) (hi) (.slice ad n cp) n (flat L)) := R1_0.out.below st2 (by omega)
  have d2_0 : w.heap.size < v2.heap.size := by omega
  have e2_0 : w.heap.size ≠ v2.heap.size := by omega
  clear d1_0 e1_0 c1_0 c1_1 B1 st2 R1_0 hb2
  go_wp2_with fail
  go_ret
  exact ⟨_, rfl, Row.empty 1 _ _ _ _ _, B2.out⟩

set_option maxRecDepth 100000 in
set_option maxHeartbeats 2400000 in
theorem ihop_no2 (N : Int) (lo hi n : Nat) (v : Value) (L : List Ed) (x y : Int) (w : World) (hL : L.length = n) (hr : Row 3 w lo hi v n (flat L)) (hh : hi ≤ w.heap.size) (hn : gok N L = true ∧ ndB N x = true ∧ ndB N y = false) :
    Calls Try.prog 42 #[.agg #[.int .i64 N, v], .int .i64 x, .int .i64 y] w (LiPost [] w) := by
  have HR := Lib.hid hr
  have Hn := Lib.hid hn
  obtain ⟨ad, cp, rfl⟩ := hr.slice
  clear hr hn
  go_enter Try.func42, Try.ntmps42
  go_wp2_with fail
  go_at_call 51
  refine (igok_any N lo hi n _ L _ hL (HR.out.below (B := w.heap.size) (by go_grown) (by omega)) (by simp; omega)).mono ?_
  rw [Hn.out.1]
  rintro e v1 ⟨rfl, hb1⟩
  have sz1 : w.heap.size + 1 ≤ v1.heap.size := by have hh := hb1.size; simp at hh; omega
  have st1 : Below w.heap.size w v1 := Below.trans (by go_grown) (hb1.mono (by simp))
  have c1_0 : v1.cell? ⟨w.heap.size, 0, none⟩ = some (.int .i64 N) := by rw [(bcell hb1).1 _ _ (by simp)]; first | (rw [new_at (by simp)]; rfl) | simp
  have c1_1 : v1.cell? ⟨w.heap.size, 1, none⟩ = some (.slice ad n cp) := by rw [(bcell hb1).1 _ _ (by simp)]; first | (rw [new_at (by simp)]; rfl) | simp
  have B1 : Hid (Below w.heap.size w v1) := st1
  have R1_0 : Hid (Row 3 v1 (lo) (hi) (.slice ad n cp) n (flat L)) := HR.out.below st1 (by omega)
  have d1_0 : w.heap.size < v1.heap.size := by omega
  have e1_0 : w.heap.size ≠ v1.heap.size := by omega
  clear st1 HR hb1
  go_wp2_with fail
  go_at_call 52
  refine (hasNode_any N _ _ _ x _).mono ?_
  rw [Hn.out.2.1]
  rintro e v2 ⟨rfl, hb2⟩
  have sz2 : v1.heap.size ≤ v2.heap.size := hb2.size
  have st2 : Below v1.heap.size v1 v2 := hb2
  have c2_0 : v2.cell? ⟨w.heap.size, 0, none⟩ = some (.int .i64 N) := by rw [(bcell st2).1 _ _ (by omega)]; exact c1_0
  have c2_1 : v2.cell? ⟨w.heap.size, 1, none⟩ = some (.slice ad n cp) := by rw [(bcell st2).1 _ _ (by omega)]; exact c1_1
  have B2 : Hid (Below w.heap.size w v2) := B1.out.trans (st2.mono (by omega))
  have R2_0 : Hid (Row 3 v2 (lo) (hi) (.slice ad n cp) n (flat L)) := R1_0.out.below st2 (by omega)
  have d2_0 : w.heap.size < v2.heap.size := by omega
  have e2_0 : w.heap.size ≠ v2.heap.size := by omega
  clear d1_0 e1_0 c1_0 c1_1 B1 st2 R1_0 hb2
  go_wp2_with fail
  go_at_call 52
  refine (hasNode_any N _ _ _ y _).mono ?_
  rw [Hn.out.2.2]
  rintro e v3 ⟨rfl, hb3⟩
  have sz3 : v2.heap.size ≤ v3.heap.size := hb3.size
  have st3 : Below v2.heap.size v2 v3 := hb3
  have c3_0 : v3.cell? ⟨w.heap.size, 0, none⟩ = some (.int .i64 N) := by rw [(bcell st3).1 _ _ (by omega)]; exact c2_0
  have c3_1 : v3.cell? ⟨w.heap.size, 1, none⟩ = some (.slice ad n cp) := by rw [(bcell st3).1 _ _ (by omega)]; exact c2_1
  have B3 : Hid (Below w.heap.size w v3) := B2.out.trans (st3.mono (by omega))
  have R3_0 : Hid (Row 3 v3 (lo) (hi) (.slice ad n cp) n (flat L)) := R2_0.out.below st3 (by omega)
  have d3_0 : w.heap.size < v3.heap.size := by omega
  have e3_0 : w.heap.size ≠ v3.heap.size := by omega
  clear d2_0 e2_0 c2_0 c2_1 B2 st3 R2_0 hb3
  go_wp2_with fail
  go_ret
  exact ⟨_, rfl, Row.empty 1 _ _ _ _ _, B3.out⟩

set_option maxRecDepth 100000 in
set_option maxHeartbeats 4000000 in
theorem ihop_yes (M : Nat) (lo hi n : Nat) (v : Value) (L : List Ed) (s o : Nat) (w : World) (hL : L.length = n) (hr : Row 3 w lo hi v n (flat L)) (hh : hi ≤ w.heap.size) (hG : gok (M : Int) L = true) (hs : s < M) (ho : o < M) :
    Calls Try.prog 42 #[.agg #[.int .i64 (M : Int), v], .int .i64 (s : Int), .int .i64 (o : Int)] w (LiPost (setL (fun z => decide (tgP (M : Int) L (o : Int) (s : Int) z))) w) := by
  have HR := Lib.hid hr
  have HG := Lib.hid hG
  have HL := Lib.hid hL
  have hN1 := (gok_parts hG).1
  have hN2 := (gok_parts hG).2.1
  have hns : ndB (M : Int) (s : Int) = true := by unfold ndB; rw [inB_iff]; omega
  have hno : ndB (M : Int) (o : Int) = true := by unfold ndB; rw [inB_iff]; omega
  obtain ⟨ad, cp, rfl⟩ := hr.slice
  clear hr
  go_enter Try.func42, Try.ntmps42
  go_wp2_with fail
  go_at_call 51
  refine (igok_any (M : Int) lo hi n _ L _ hL (HR.out.below (B := w.heap.size) (by go_grown) (by omega)) (by simp; omega)).mono ?_
  rw [HG.out]
  rintro e v1 ⟨rfl, hb1⟩
  have sz1 : w.heap.size + 1 ≤ v1.heap.size := by have hh := hb1.size; simp at hh; omega
  have st1 : Below w.heap.size w v1 := Below.trans (by go_grown) (hb1.mono (by simp))
  have c1_0 : v1.cell? ⟨w.heap.size, 0, none⟩ = some (.int .i64 (M : Int)) := by rw [(bcell hb1).1 _ _ (by simp)]; first | (rw [new_at (by simp)]; rfl) | simp
  have c1_1 : v1.cell? ⟨w.heap.size, 1, none⟩ = some (.slice ad n cp) := by rw [(bcell hb1).1 _ _ (by simp)]; first | (rw [new_at (by simp)]; rfl) | simp
  have B1 : Hid (Below w.heap.size w v1) := st1
  have R1_0 : Hid (Row 3 v1 (lo) (hi) (.slice ad n cp) n (flat L)) := HR.out.below st1 (by omega)
  have d1_0 : w.heap.size < v1.heap.size := by omega
  have e1_0 : w.heap.size ≠ v1.heap.size := by omega
  clear st1 HR hb1
  go_wp2_with fail
  go_at_call 52
  refine (hasNode_any (M : Int) _ _ _ (s : Int) _).mono ?_
  rw [hns]
  rintro e v2 ⟨rfl, hb2⟩
  have sz2 : v1.heap.size ≤ v2.heap.size := hb2.size
  have st2 : Below v1.heap.size v1 v2 := hb2
  have c2_0 : v2.cell? ⟨w.heap.size, 0, none⟩ = some (.int .i64 (M : Int)) := by rw [(bcell st2).1 _ _ (by omega)]; exact c1_0
  have c2_1 : v2.cell? ⟨w.heap.size, 1, none⟩ = some (.slice ad n cp) := by rw [(bcell st2).1 _ _ (by omega)]; exact c1_1
  have B2 : Hid (Below w.heap.size w v2) := B1.out.trans (st2.mono (by omega))
  have R2_0 : Hid (Row 3 v2 (lo) (hi) (.slice ad n cp) n (flat L)) := R1_0.out.below st2 (by omega)
  have d2_0 : w.heap.size < v2.heap.size := by omega
  have e2_0 : w.heap.size ≠ v2.heap.size := by omega
  clear d1_0 e1_0 c1_0 c1_1 B1 st2 R1_0 hb2
  go_wp2_with fail
  go_at_call 52
  refine (hasNode_any (M : Int) _ _ _ (o : Int) _).mono ?_
  rw [hno]
  rintro e v3 ⟨rfl, hb3⟩
  have sz3 : v2.heap.size ≤ v3.heap.size := hb3.size
  have st3 : Below v2.heap.size v2 v3 := hb3
  have c3_0 : v3.cell? ⟨w.heap.size, 0, none⟩ = some (.int .i64 (M : Int)) := by rw [(bcell st3).1 _ _ (by omega)]; exact c2_0
  have c3_1 : v3.cell? ⟨w.heap.size, 1, none⟩ = some (.slice ad n cp) := by rw [(bcell st3).1 _ _ (by omega)]; exact c2_1
  have B3 : Hid (Below w.heap.size w v3) := B2.out.trans (st3.mono (by omega))
  have R3_0 : Hid (Row 3 v3 (lo) (hi) (.slice ad n cp) n (flat L)) := R2_0.out.below st3 (by omega)
  have d3_0 : w.heap.size < v3.heap.size := by omega
  have e3_0 : w.heap.size ≠ v3.heap.size := by omega
  clear d2_0 e2_0 c2_0 c2_1 B2 st3 R2_0 hb3
  clear hns hno
  go_wp2_with fail
  go_at_call 77
  refine (hopsets_any M lo hi n _ L s _ HL.out R3_0.out (by omega) HG.out hs).mono ?_
  rintro e v4 ⟨⟨mp, rfl, q, bs, hbs, hS⟩, hb4⟩
  have HS := Lib.hid hS
  have HB4 : Hid (Below w.heap.size w v4) := B3.out.trans (hb4.mono (by omega))
  have hw4 := hb4.size
  have hix := fun w => index77 mp o (by omega) w
  have ho10 : o < 10 := by omega
  clear hS hb4 hs c3_0 c3_1 B3 R3_0 d3_0 e3_0
  go_wp2_with fail
  go_at_call 78
  refine (sorted_any (mp o) q _ _ (HS.out.set o ho10)).mono ?_
  rintro e w5 ⟨rv, rfl, hrow, hb5⟩
  have Hrow := Lib.hid hrow
  have Hb5 := Lib.hid hb5
  clear hrow hb5 hix
  go_wp2_with fail
  go_ret
  have hs5 := Hb5.out.size
  exact ⟨_, rfl, Hrow.out.wider (by omega), HB4.out.trans (Hb5.out.mono (by omega))⟩

theorem ihop_any (N : Int) (lo hi n : Nat) (v : Value) (L : List Ed) (x y : Int) (w : World) (hL : L.length = n) (hr : Row 3 w lo hi v n (flat L)) (hh : hi ≤ w.heap.size) :
    Calls Try.prog 42 #[.agg #[.int .i64 N, v], .int .i64 x, .int .i64 y] w (LiPost (hopsL N L x y) w) := by
  unfold hopsL
  by_cases hG : gok N L = true
  · have hN := gok_parts hG
    by_cases hx : ndB N x = true
    · by_cases hy : ndB N y = true
      · rw [if_pos ⟨hG, hx, hy⟩]
        obtain ⟨M, rfl⟩ : ∃ M : Nat, N = (M : Int) := ⟨N.toNat, by omega⟩
        unfold ndB at hx hy
        rw [inB_iff] at hx hy
        obtain ⟨s, rfl⟩ : ∃ s : Nat, x = (s : Int) := ⟨x.toNat, by omega⟩
        obtain ⟨o, rfl⟩ : ∃ o : Nat, y = (o : Int) := ⟨y.toNat, by omega⟩
        exact ihop_yes M lo hi n v L s o w hL hr hh hG (by omega) (by omega)
      · rw [if_neg (fun h => hy h.2.2)]
        exact ihop_no2 N lo hi n v L x y w hL hr hh ⟨hG, hx, by simpa using hy⟩
    · rw [if_neg (fun h => hx h.2.1)]
      exact ihop_no1 N lo hi n v L x y w hL hr hh ⟨hG, by simpa using hx⟩
  · rw [if_neg (fun h => hG h.1)]
    exact ihop_no0 N lo hi n v L x y w hL hr hh (by simpa using hG)

end Go.Proofs.Ytjenjdhoblcohaa
