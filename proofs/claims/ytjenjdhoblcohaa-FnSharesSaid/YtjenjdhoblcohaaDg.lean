/- Draws: a graph. -/
import Derived.Test.YtjenjdhoblcohaaDr
import Derived.Test.YtjenjdhoblcohaaQg
import Derived.Test.YtjenjdhoblcohaaW6
import Derived.Deep.AppendLies
namespace Go.Proofs.Ytjenjdhoblcohaa
open Go.RowKit

/-- A row of edges of one's own. -/
structure OwnE (w wr : World) (v : Value) (L : List Ed) : Prop where
  below : Below w.heap.size w wr
  row : wr.ownsRow w.heap.size 96 3 v L.length (ints (flat L))
theorem OwnE.grow {w wr w2 : World} {v : Value} {L : List Ed} (h : OwnE w wr v L) (b : Below wr.heap.size wr w2) : OwnE w w2 v L :=
  ⟨h.below.trans (b.mono h.below.size), h.row.kept (row := none) ⟨b.os, b.tape, b.output, b.size, fun j hj _ => b.block j hj⟩ (by cases hv : v.ownBlock <;> simp)⟩
theorem flat_snoc (L : List Ed) (a b c : Int) : ints (flat (L ++ [(a, b, c)])) = ints (flat L) ++ [.int .i64 a, .int .i64 b, .int .i64 c] := by rw [flat_app]; simp [ints, flat]
theorem OwnE.app {w wr w4 : World} {v v' : Value} {L : List Ed} {a b c : Int} (h : OwnE w wr v L) (hg : wr.grownBy w4 v.ownBlock) (hr : w4.ownsRow w.heap.size 96 3 v' (L.length + 1) (ints (flat L) ++ [.int .i64 a, .int .i64 b, .int .i64 c])) : OwnE w w4 v' (L ++ [(a, b, c)]) := by
  have hs := h.below.size
  have b := h.below
  refine ⟨⟨hg.os.trans b.os, hg.tape.trans b.tape, hg.output.trans b.output, Nat.le_trans hs hg.size, fun k hk => (hg.block k (by omega) (fun e => ?_)).trans (b.block k hk)⟩, by rw [flat_snoc, List.length_append]; exact hr⟩
  have := (h.row.lt k e.symm).1
  omega
theorem OwnE.lit0 (w : World) : OwnE w (w.alloc (.cells #[] 96)) (.slice (some ⟨w.heap.size, 0, none⟩) 0 0) [] :=
  ⟨(Below.refl _ _).alloc (Nat.le_refl _) _, ⟨rfl, .inr ⟨_, 0, #[], rfl, Nat.le_refl _, heap_alloc_new w (.cells #[] 96), Nat.zero_le _, Nat.zero_le _, rfl, by simp [ints, flat]⟩⟩⟩
theorem OwnE.toRow {w wr : World} {v : Value} {L : List Ed} (h : OwnE w wr v L) (hl : L.length ≤ 1100000) : Row 3 wr w.heap.size wr.heap.size v L.length (flat L) := row_of_own h.row hl
theorem cell_three_any (w : World) (x y z : Value) (T : TypeId) {B : Nat} (hB : B = w.heap.size) (j : Nat) (u : Value) (h : [x, y, z][j]? = some u) : (w.alloc (.cells #[x, y, z] T)).cell? ((⟨B, 0, none⟩ : Addr).add j) = some u := by
  subst hB
  rw [add_none]
  rcases j with _ | _ | _ | j
  · simp at h; subst h; simp
  · simp at h; subst h; simp
  · simp at h; subst h; simp
  · simp at h
theorem Try.info96' : (Try.prog.info? 96).map (fun i => (i.zero, i.size, i.bytes)) = some (some (.agg #[.int .i64 0, .int .i64 0, .int .i64 0]), 3, 24) := by kernel_rfl
/-- A row of edges, and that its block is a slice's own (so that one may append to it). -/
structure RowO (w : World) (lo hi : Nat) (v : Value) (L : List Ed) : Prop where
  row : Row 3 w lo hi v L.length (flat L)
  own : w.ownsRow lo 96 3 v L.length (ints (flat L))
  top : ∀ k, v.ownBlock = some k → k < hi
theorem ownsRow_low {w : World} {base base' : Nat} {e : TypeId} {size : Nat} {v : Value} {n : Nat} {xs : List Value} (h : w.ownsRow base e size v n xs) (hb : base' ≤ base) : w.ownsRow base' e size v n xs := by
  obtain ⟨h1, h2⟩ := h
  refine ⟨h1, ?_⟩
  rcases h2 with h2 | ⟨g, cap, cur, e1, e2, e3⟩
  · exact .inl h2
  · exact .inr ⟨g, cap, cur, e1, Nat.le_trans hb e2, e3⟩
theorem RowO.slice {w : World} {lo hi : Nat} {v : Value} {L : List Ed} (h : RowO w lo hi v L) : ∃ a c, v = .slice a L.length c := h.row.slice
theorem RowO.wide {w : World} {lo hi lo' hi' : Nat} {v : Value} {L : List Ed} (h : RowO w lo hi v L) (hl : lo' ≤ lo) (hh : hi ≤ hi') : RowO w lo' hi' v L := ⟨h.row.wide hl hh, ownsRow_low h.own hl, fun k e => Nat.lt_of_lt_of_le (h.top k e) hh⟩
theorem RowO.setCell {w : World} {lo hi : Nat} {v : Value} {L : List Ed} (h : RowO w lo hi v L) {p : Addr} (hp : p.block < lo ∨ hi ≤ p.block) (u : Value) : RowO (w.setCell p u) lo hi v L :=
  ⟨h.row.setCell hp u, h.own.kept (row := some p.block) ⟨rfl, rfl, rfl, by simp [World.setCell], fun b _ hb => Below.heap_setCell _ _ _ _ (fun e => hb (by rw [e]))⟩ (by
    cases hv : v.ownBlock with
    | none => exact .inl rfl
    | some k => exact .inr (fun e => by have h1 := (h.own.lt k hv).1; have h2 := h.top k hv; have h3 := Option.some.inj e; omega)), h.top⟩
theorem RowO.else_ {w wr : World} {g lo hi : Nat} {v : Value} {L : List Ed} (h : RowO w lo hi v L) (ho : Else g w wr) (hh : hi ≤ w.heap.size) (hg : hi ≤ g ∨ g < lo) : RowO wr lo hi v L :=
  ⟨h.row.else_ ho hh hg, h.own.kept (row := some g) ⟨ho.1, ho.2.1, ho.2.2.1, ho.2.2.2.1, fun b hb hn => ho.2.2.2.2 b hb (fun e => hn (by rw [e]))⟩ (by
    cases hv : v.ownBlock with
    | none => exact .inl rfl
    | some k => exact .inr (fun e => by have h1 := (h.own.lt k hv).1; have h2 := h.top k hv; have h3 := Option.some.inj e; omega)), h.top⟩
theorem RowO.empty (w : World) (lo hi : Nat) : RowO w lo hi (.slice none 0 0) [] := ⟨Row.empty 3 _ _ _ _ _, World.ownsRow_nil _ _ _ _, fun k e => by cases e⟩
theorem OwnE.toRowO {w wr : World} {v : Value} {L : List Ed} (h : OwnE w wr v L) (hl : L.length ≤ 1100000) : RowO wr w.heap.size wr.heap.size v L := ⟨h.toRow hl, h.row, fun k e => (h.row.lt k e).2⟩
/-- Some row of edges, no longer than n and one. -/
def PutPost (w : World) (n : Nat) (e : Ending) (w' : World) : Prop := ∃ rv L', e = .returned rv ∧ RowO w' w.heap.size w'.heap.size rv L' ∧ L'.length ≤ n + 1 ∧ Below w.heap.size w w'
set_option maxRecDepth 100000 in
set_option maxHeartbeats 4000000 in
theorem put_any (lo hi n : Nat) (v : Value) (L : List Ed) (p q r : Int) (w : World) (hL : L.length = n) (hr : Row 3 w lo hi v n (flat L)) (hh : hi ≤ w.heap.size) (hn : n ≤ 1000000) :
    Calls Try.prog 117 #[v, .agg #[.int .i64 p, .int .i64 q, .int .i64 r]] w (PutPost w n) := by
  obtain ⟨ad, cp, rfl, _, hc⟩ := hr.opened
  have HC := Lib.hid hc
  have HL := Lib.hid hL
  obtain ⟨iE, hi, hz0, hz1, hz2⟩ := info_parts Try.info96'
  have I := Lib.hid (And.intro hi (And.intro hz0 (And.intro hz1 hz2)))
  clear hr hc hi hz0 hz1 hz2
  go_enter Try.func117, Try.ntmps117
  go_wp2_with fail
  obtain ⟨w0, hw0⟩ : ∃ w0, w0 = w.alloc (.cells #[.int .i64 p, .int .i64 q, .int .i64 r] 96) := ⟨_, rfl⟩
  have HO : Hid (OwnE w0 (w0.alloc (.cells #[] 96)) (.slice (some ⟨w0.heap.size, 0, none⟩) 0 0) []) := OwnE.lit0 w0
  have hs0 : w0.heap.size = w.heap.size + 1 := by rw [hw0]; simp
  have e0 : w0.cell? ⟨w.heap.size, 0, none⟩ = some (.int .i64 p) := by rw [hw0]; simp
  have e1 : w0.cell? ⟨w.heap.size, 1, none⟩ = some (.int .i64 q) := by rw [hw0]; simp
  have e2 : w0.cell? ⟨w.heap.size, 2, none⟩ = some (.int .i64 r) := by rw [hw0]; simp
  have HBw : Hid (Below w.heap.size w w0) := by rw [hw0]; show Below _ _ _; go_grown
  rw [← hw0]
  rw [hs0] at HO
  have E0 := Lib.hid e0
  have E1 := Lib.hid e1
  have E2 := Lib.hid e2
  have hwv : w.heap.size < w0.heap.size := by omega
  clear hw0 hs0 e0 e1 e2
  go_loopw [5, 6, 7] (fun v pb i wr => ∃ (k : Nat) (pt : Bool) (L' : List Ed), k ≤ n ∧ i = .int .i64 (k : Int) ∧ pb = .bool pt ∧ Hid (OwnE w0 wr v L') ∧ L'.length ≤ k + (if pt = true then 1 else 0)) (fun _ _ i _ => n - (intOf i).toNat)
  case atStart => exact ⟨0, false, [], Nat.zero_le _, rfl, rfl, HO, Nat.zero_le _⟩
  case round =>
    clear HO
    obtain ⟨k, pt, L', hk, rfl, rfl, hO, hlen⟩ := hrel
    have hlen2 : L'.length ≤ 1000001 := by split at hlen <;> omega
    have hsz := hO.out.below.size
    obtain ⟨oa, oc, ho⟩ := own_slice hO.out.row
    subst ho
    have x0 : wr.cell? ⟨w.heap.size, 0, none⟩ = some (.int .i64 p) := by rw [hO.out.below.cell (p := ⟨w.heap.size, 0, none⟩) hwv]; exact E0.out
    have x1 : wr.cell? ⟨w.heap.size, 1, none⟩ = some (.int .i64 q) := by rw [hO.out.below.cell (p := ⟨w.heap.size, 1, none⟩) hwv]; exact E1.out
    have x2 : wr.cell? ⟨w.heap.size, 2, none⟩ = some (.int .i64 r) := by rw [hO.out.below.cell (p := ⟨w.heap.size, 2, none⟩) hwv]; exact E2.out
    by_cases hlt : k < n
    · obtain ⟨g, rfl, hg, hcell⟩ := HC.out (by omega)
      obtain ⟨rr, hrk⟩ : ∃ r, L[k]? = some r := ⟨L[k]'(by rw [HL.out]; exact hlt), List.getElem?_eq_getElem _⟩
      obtain ⟨a, b, c⟩ := rr
      obtain ⟨r0, r1, r2⟩ := flat_at L k _ hrk
      have hBw : Below w.heap.size w wr := HBw.out.trans (hO.out.below.mono (by omega))
      have z0 : wr.cell? ⟨g, k * 3, none⟩ = some (.int .i64 a) := by rw [hBw.cell (p := ⟨g, k * 3, none⟩) (by show g < _; omega)]; exact hcell _ _ r0
      have z1 : wr.cell? ⟨g, k * 3 + 1, none⟩ = some (.int .i64 b) := by rw [hBw.cell (p := ⟨g, k * 3 + 1, none⟩) (by show g < _; omega)]; exact hcell _ _ r1
      have z2 : wr.cell? ⟨g, k * 3 + 2, none⟩ = some (.int .i64 c) := by rw [hBw.cell (p := ⟨g, k * 3 + 2, none⟩) (by show g < _; omega)]; exact hcell _ _ r2
      have q0 : (0 : Int) ≤ (k : Int) := by omega
      have q1 : (k : Int) < (n : Int) := by omega
      have hwr : w.heap.size < wr.heap.size := by omega
      have HOb : Hid (OwnE w0 (wr.alloc (.cells #[.int .i64 a, .int .i64 b, .int .i64 c] 96)) (.slice oa L'.length oc) L') := hO.out.grow ((Below.refl _ _).alloc (Nat.le_refl _) _)
      have x0b : (wr.alloc (.cells #[.int .i64 a, .int .i64 b, .int .i64 c] 96)).cell? ⟨w.heap.size, 0, none⟩ = some (.int .i64 p) := by rw [old_box hwr]; exact x0
      have x1b : (wr.alloc (.cells #[.int .i64 a, .int .i64 b, .int .i64 c] 96)).cell? ⟨w.heap.size, 1, none⟩ = some (.int .i64 q) := by rw [old_box hwr]; exact x1
      have x2b : (wr.alloc (.cells #[.int .i64 a, .int .i64 b, .int .i64 c] 96)).cell? ⟨w.heap.size, 2, none⟩ = some (.int .i64 r) := by rw [old_box hwr]; exact x2
      have hvl : ∀ k, (Value.slice oa L'.length oc).ownBlock = some k → k < wr.heap.size := fun k h => (hO.out.row.lt k h).2
      have hgl : g < wr.heap.size := by omega
      clear r0 r1 r2 hrk hcell hBw hO x0 x1 x2
      cases pt
      · simp only [Bool.false_eq_true, if_false, Nat.add_zero] at hlen
        rcases Int.lt_trichotomy p a with hx1 | hx1 | hx1
        · have D1 : decide (p < a) = true := by simp; omega
          have D2 : (p == a) = false := by simp; omega
          have D4 : (a != p) = true := by simp; omega
          clear hx1
          go_wp2_with (at_builtin; refine wpList_append_lies _ rfl _ _ 27 rfl w0.heap.size 96 iE (.agg #[.int .i64 0, .int .i64 0, .int .i64 0]) 3 24 Try.underlying27 I.out.1 I.out.2.1 I.out.2.2.1 I.out.2.2.2 rfl (by decide) _ L'.length (ints (flat L')) rfl (HOb.out.row.alloc _) ⟨wr.heap.size + 1, 0, none⟩ 1 1 [.int .i64 p, .int .i64 q, .int .i64 r] rfl rfl ?d0 (three_one _ _ _) (by decide) ?d1 ?d2 ?d3 _ rfl ?_)
          case d0 => exact fun j u hj => cell_three_any _ _ _ _ 96 (by simp) j u hj
          case d1 => unfold maxLen; omega
          case d2 => omega
          case d3 => simp <;> omega
          intro g4 cap4 w4 hown4 hgrow4 hat4 hlt4
          have HF4 : Hid (OwnE w0 w4 (.slice (some ⟨g4, 0, none⟩) (L'.length + 1) cap4) (L' ++ [(p, q, r)])) := (HOb.out.grow ((Below.refl _ _).alloc (Nat.le_refl _) (.cells #[.int .i64 p, .int .i64 q, .int .i64 r] 96))).app hgrow4 hown4
          have hll4 : (L' ++ [(p, q, r)]).length = L'.length + 1 := by simp
          have zz : ∀ o u, (wr.alloc (.cells #[.int .i64 a, .int .i64 b, .int .i64 c] 96)).cell? ⟨wr.heap.size, o, none⟩ = some u → w4.cell? ⟨wr.heap.size, o, none⟩ = some u := fun o u h => by
            rw [hgrow4.cell_far ⟨wr.heap.size, o, none⟩ (by simp <;> omega) (fun e => absurd (hvl _ e.symm) (Nat.lt_irrefl _)), old_box (by simp)]
            exact h
          have y0 := zz 0 (.int .i64 a) (by simp)
          have y1 := zz 1 (.int .i64 b) (by simp)
          have y2 := zz 2 (.int .i64 c) (by simp)
          have x0 : w4.cell? ⟨w.heap.size, 0, none⟩ = some (.int .i64 p) := by rw [HF4.out.below.cell (p := ⟨w.heap.size, 0, none⟩) hwv]; exact E0.out
          have x1 : w4.cell? ⟨w.heap.size, 1, none⟩ = some (.int .i64 q) := by rw [HF4.out.below.cell (p := ⟨w.heap.size, 1, none⟩) hwv]; exact E1.out
          have hs4 : wr.heap.size < w4.heap.size := by have := hgrow4.size; simp at this; omega
          have hw4 := HF4.out.below.size
          clear zz hown4 hgrow4 hat4 hlt4 x0b x1b x2b hvl
          have Hw4 : Hid (w4.ownsRow w0.heap.size 96 3 (.slice (some ⟨g4, 0, none⟩) (L'.length + 1) cap4) (L'.length + 1) (ints (flat (L' ++ [(p, q, r)])))) := by
            have h := HF4.out.row
            rw [hll4] at h
            exact h
          go_wp2_with (at_builtin; refine wpList_append_lies _ rfl _ _ 27 rfl w0.heap.size 96 iE (.agg #[.int .i64 0, .int .i64 0, .int .i64 0]) 3 24 Try.underlying27 I.out.1 I.out.2.1 I.out.2.2.1 I.out.2.2.2 rfl (by decide) _ (L'.length + 1) (ints (flat (L' ++ [(p, q, r)]))) rfl ((Hw4.out).alloc _) ⟨w4.heap.size, 0, none⟩ 1 1 [.int .i64 a, .int .i64 b, .int .i64 c] rfl rfl ?d0 (three_one _ _ _) (by decide) ?d1 ?d2 ?d3 _ rfl ?_)
          case d0 => exact fun j u hj => cell_three_any _ _ _ _ 96 (by simp) j u hj
          case d1 => unfold maxLen; omega
          case d2 => omega
          case d3 => simp <;> omega
          intro g5 cap5 w5 hown5 hgrow5 hat5 hlt5
          have HF5 : Hid (OwnE w0 w5 (.slice (some ⟨g5, 0, none⟩) (L'.length + 1 + 1) cap5) ((L' ++ [(p, q, r)]) ++ [(a, b, c)])) := (HF4.out.grow ((Below.refl _ _).alloc (Nat.le_refl _) (.cells #[.int .i64 a, .int .i64 b, .int .i64 c] 96))).app hgrow5 (by rw [hll4]; exact hown5)
          clear hown5 hgrow5 hat5 hlt5
          go_wp2_with fail
          go_roundw
          case rel => exact ⟨k + 1, true, ((L' ++ [(p, q, r)]) ++ [(a, b, c)]), by omega, by go_num, rfl, HF5, by simp <;> omega⟩
          case measure => simp [intOf]; omega
        · rcases Int.lt_trichotomy q b with hx2 | hx2 | hx2
          · have D1 : decide (p < a) = false := by simp; omega
            have D2 : (p == a) = true := by simp; omega
            have D3 : decide (q ≤ b) = true := by simp; omega
            have D4 : (a != p) = false := by simp; omega
            have D5 : (b != q) = true := by simp; omega
            clear hx1 hx2
            go_wp2_with (at_builtin; refine wpList_append_lies _ rfl _ _ 27 rfl w0.heap.size 96 iE (.agg #[.int .i64 0, .int .i64 0, .int .i64 0]) 3 24 Try.underlying27 I.out.1 I.out.2.1 I.out.2.2.1 I.out.2.2.2 rfl (by decide) _ L'.length (ints (flat L')) rfl (HOb.out.row.alloc _) ⟨wr.heap.size + 1, 0, none⟩ 1 1 [.int .i64 p, .int .i64 q, .int .i64 r] rfl rfl ?d0 (three_one _ _ _) (by decide) ?d1 ?d2 ?d3 _ rfl ?_)
            case d0 => exact fun j u hj => cell_three_any _ _ _ _ 96 (by simp) j u hj
            case d1 => unfold maxLen; omega
            case d2 => omega
            case d3 => simp <;> omega
            intro g4 cap4 w4 hown4 hgrow4 hat4 hlt4
            have HF4 : Hid (OwnE w0 w4 (.slice (some ⟨g4, 0, none⟩) (L'.length + 1) cap4) (L' ++ [(p, q, r)])) := (HOb.out.grow ((Below.refl _ _).alloc (Nat.le_refl _) (.cells #[.int .i64 p, .int .i64 q, .int .i64 r] 96))).app hgrow4 hown4
            have hll4 : (L' ++ [(p, q, r)]).length = L'.length + 1 := by simp
            have zz : ∀ o u, (wr.alloc (.cells #[.int .i64 a, .int .i64 b, .int .i64 c] 96)).cell? ⟨wr.heap.size, o, none⟩ = some u → w4.cell? ⟨wr.heap.size, o, none⟩ = some u := fun o u h => by
              rw [hgrow4.cell_far ⟨wr.heap.size, o, none⟩ (by simp <;> omega) (fun e => absurd (hvl _ e.symm) (Nat.lt_irrefl _)), old_box (by simp)]
              exact h
            have y0 := zz 0 (.int .i64 a) (by simp)
            have y1 := zz 1 (.int .i64 b) (by simp)
            have y2 := zz 2 (.int .i64 c) (by simp)
            have x0 : w4.cell? ⟨w.heap.size, 0, none⟩ = some (.int .i64 p) := by rw [HF4.out.below.cell (p := ⟨w.heap.size, 0, none⟩) hwv]; exact E0.out
            have x1 : w4.cell? ⟨w.heap.size, 1, none⟩ = some (.int .i64 q) := by rw [HF4.out.below.cell (p := ⟨w.heap.size, 1, none⟩) hwv]; exact E1.out
            have hs4 : wr.heap.size < w4.heap.size := by have := hgrow4.size; simp at this; omega
            have hw4 := HF4.out.below.size
            clear zz hown4 hgrow4 hat4 hlt4 x0b x1b x2b hvl
            have Hw4 : Hid (w4.ownsRow w0.heap.size 96 3 (.slice (some ⟨g4, 0, none⟩) (L'.length + 1) cap4) (L'.length + 1) (ints (flat (L' ++ [(p, q, r)])))) := by
              have h := HF4.out.row
              rw [hll4] at h
              exact h
            go_wp2_with (at_builtin; refine wpList_append_lies _ rfl _ _ 27 rfl w0.heap.size 96 iE (.agg #[.int .i64 0, .int .i64 0, .int .i64 0]) 3 24 Try.underlying27 I.out.1 I.out.2.1 I.out.2.2.1 I.out.2.2.2 rfl (by decide) _ (L'.length + 1) (ints (flat (L' ++ [(p, q, r)]))) rfl ((Hw4.out).alloc _) ⟨w4.heap.size, 0, none⟩ 1 1 [.int .i64 a, .int .i64 b, .int .i64 c] rfl rfl ?d0 (three_one _ _ _) (by decide) ?d1 ?d2 ?d3 _ rfl ?_)
            case d0 => exact fun j u hj => cell_three_any _ _ _ _ 96 (by simp) j u hj
            case d1 => unfold maxLen; omega
            case d2 => omega
            case d3 => simp <;> omega
            intro g5 cap5 w5 hown5 hgrow5 hat5 hlt5
            have HF5 : Hid (OwnE w0 w5 (.slice (some ⟨g5, 0, none⟩) (L'.length + 1 + 1) cap5) ((L' ++ [(p, q, r)]) ++ [(a, b, c)])) := (HF4.out.grow ((Below.refl _ _).alloc (Nat.le_refl _) (.cells #[.int .i64 a, .int .i64 b, .int .i64 c] 96))).app hgrow5 (by rw [hll4]; exact hown5)
            clear hown5 hgrow5 hat5 hlt5
            go_wp2_with fail
            go_roundw
            case rel => exact ⟨k + 1, true, ((L' ++ [(p, q, r)]) ++ [(a, b, c)]), by omega, by go_num, rfl, HF5, by simp <;> omega⟩
            case measure => simp [intOf]; omega
          · have D1 : decide (p < a) = false := by simp; omega
            have D2 : (p == a) = true := by simp; omega
            have D3 : decide (q ≤ b) = true := by simp; omega
            have D4 : (a != p) = false := by simp; omega
            have D5 : (b != q) = false := by simp; omega
            clear hx1 hx2
            go_wp2_with (at_builtin; refine wpList_append_lies _ rfl _ _ 27 rfl w0.heap.size 96 iE (.agg #[.int .i64 0, .int .i64 0, .int .i64 0]) 3 24 Try.underlying27 I.out.1 I.out.2.1 I.out.2.2.1 I.out.2.2.2 rfl (by decide) _ L'.length (ints (flat L')) rfl (HOb.out.row.alloc _) ⟨wr.heap.size + 1, 0, none⟩ 1 1 [.int .i64 p, .int .i64 q, .int .i64 r] rfl rfl ?d0 (three_one _ _ _) (by decide) ?d1 ?d2 ?d3 _ rfl ?_)
            case d0 => exact fun j u hj => cell_three_any _ _ _ _ 96 (by simp) j u hj
            case d1 => unfold maxLen; omega
            case d2 => omega
            case d3 => simp <;> omega
            intro g4 cap4 w4 hown4 hgrow4 hat4 hlt4
            have HF4 : Hid (OwnE w0 w4 (.slice (some ⟨g4, 0, none⟩) (L'.length + 1) cap4) (L' ++ [(p, q, r)])) := (HOb.out.grow ((Below.refl _ _).alloc (Nat.le_refl _) (.cells #[.int .i64 p, .int .i64 q, .int .i64 r] 96))).app hgrow4 hown4
            have hll4 : (L' ++ [(p, q, r)]).length = L'.length + 1 := by simp
            have zz : ∀ o u, (wr.alloc (.cells #[.int .i64 a, .int .i64 b, .int .i64 c] 96)).cell? ⟨wr.heap.size, o, none⟩ = some u → w4.cell? ⟨wr.heap.size, o, none⟩ = some u := fun o u h => by
              rw [hgrow4.cell_far ⟨wr.heap.size, o, none⟩ (by simp <;> omega) (fun e => absurd (hvl _ e.symm) (Nat.lt_irrefl _)), old_box (by simp)]
              exact h
            have y0 := zz 0 (.int .i64 a) (by simp)
            have y1 := zz 1 (.int .i64 b) (by simp)
            have y2 := zz 2 (.int .i64 c) (by simp)
            have x0 : w4.cell? ⟨w.heap.size, 0, none⟩ = some (.int .i64 p) := by rw [HF4.out.below.cell (p := ⟨w.heap.size, 0, none⟩) hwv]; exact E0.out
            have x1 : w4.cell? ⟨w.heap.size, 1, none⟩ = some (.int .i64 q) := by rw [HF4.out.below.cell (p := ⟨w.heap.size, 1, none⟩) hwv]; exact E1.out
            have hs4 : wr.heap.size < w4.heap.size := by have := hgrow4.size; simp at this; omega
            have hw4 := HF4.out.below.size
            clear zz hown4 hgrow4 hat4 hlt4 x0b x1b x2b hvl
            have Hw4 : Hid (w4.ownsRow w0.heap.size 96 3 (.slice (some ⟨g4, 0, none⟩) (L'.length + 1) cap4) (L'.length + 1) (ints (flat (L' ++ [(p, q, r)])))) := by
              have h := HF4.out.row
              rw [hll4] at h
              exact h
            go_wp2_with fail
            go_roundw
            case rel => exact ⟨k + 1, true, (L' ++ [(p, q, r)]), by omega, by go_num, rfl, HF4, by simp <;> omega⟩
            case measure => simp [intOf]; omega
          · have D1 : decide (p < a) = false := by simp; omega
            have D2 : (p == a) = true := by simp; omega
            have D3 : decide (q ≤ b) = false := by simp; omega
            have D4 : (a != p) = false := by simp; omega
            have D5 : (b != q) = true := by simp; omega
            clear hx1 hx2
            go_wp2_with (at_builtin; refine wpList_append_lies _ rfl _ _ 27 rfl w0.heap.size 96 iE (.agg #[.int .i64 0, .int .i64 0, .int .i64 0]) 3 24 Try.underlying27 I.out.1 I.out.2.1 I.out.2.2.1 I.out.2.2.2 rfl (by decide) _ L'.length (ints (flat L')) rfl (HOb.out.row.alloc _) ⟨wr.heap.size + 1, 0, none⟩ 1 1 [.int .i64 a, .int .i64 b, .int .i64 c] rfl rfl ?d0 (three_one _ _ _) (by decide) ?d1 ?d2 ?d3 _ rfl ?_)
            case d0 => exact fun j u hj => cell_three_any _ _ _ _ 96 (by simp) j u hj
            case d1 => unfold maxLen; omega
            case d2 => omega
            case d3 => simp <;> omega
            intro g4 cap4 w4 hown4 hgrow4 hat4 hlt4
            have HF4 : Hid (OwnE w0 w4 (.slice (some ⟨g4, 0, none⟩) (L'.length + 1) cap4) (L' ++ [(a, b, c)])) := (HOb.out.grow ((Below.refl _ _).alloc (Nat.le_refl _) (.cells #[.int .i64 a, .int .i64 b, .int .i64 c] 96))).app hgrow4 hown4
            clear hown4 hgrow4 hat4 hlt4
            go_wp2_with fail
            go_roundw
            case rel => exact ⟨k + 1, false, (L' ++ [(a, b, c)]), by omega, by go_num, rfl, HF4, by simp <;> omega⟩
            case measure => simp [intOf]; omega
        · have D1 : decide (p < a) = false := by simp; omega
          have D2 : (p == a) = false := by simp; omega
          have D4 : (a != p) = true := by simp; omega
          clear hx1
          go_wp2_with (at_builtin; refine wpList_append_lies _ rfl _ _ 27 rfl w0.heap.size 96 iE (.agg #[.int .i64 0, .int .i64 0, .int .i64 0]) 3 24 Try.underlying27 I.out.1 I.out.2.1 I.out.2.2.1 I.out.2.2.2 rfl (by decide) _ L'.length (ints (flat L')) rfl (HOb.out.row.alloc _) ⟨wr.heap.size + 1, 0, none⟩ 1 1 [.int .i64 a, .int .i64 b, .int .i64 c] rfl rfl ?d0 (three_one _ _ _) (by decide) ?d1 ?d2 ?d3 _ rfl ?_)
          case d0 => exact fun j u hj => cell_three_any _ _ _ _ 96 (by simp) j u hj
          case d1 => unfold maxLen; omega
          case d2 => omega
          case d3 => simp <;> omega
          intro g4 cap4 w4 hown4 hgrow4 hat4 hlt4
          have HF4 : Hid (OwnE w0 w4 (.slice (some ⟨g4, 0, none⟩) (L'.length + 1) cap4) (L' ++ [(a, b, c)])) := (HOb.out.grow ((Below.refl _ _).alloc (Nat.le_refl _) (.cells #[.int .i64 a, .int .i64 b, .int .i64 c] 96))).app hgrow4 hown4
          clear hown4 hgrow4 hat4 hlt4
          go_wp2_with fail
          go_roundw
          case rel => exact ⟨k + 1, false, (L' ++ [(a, b, c)]), by omega, by go_num, rfl, HF4, by simp <;> omega⟩
          case measure => simp [intOf]; omega
      · simp only [if_true] at hlen
        rcases Int.lt_trichotomy p a with hx1 | hx1 | hx1
        · have D1 : decide (p < a) = true := by simp; omega
          have D2 : (p == a) = false := by simp; omega
          have D4 : (a != p) = true := by simp; omega
          clear hx1
          go_wp2_with (at_builtin; refine wpList_append_lies _ rfl _ _ 27 rfl w0.heap.size 96 iE (.agg #[.int .i64 0, .int .i64 0, .int .i64 0]) 3 24 Try.underlying27 I.out.1 I.out.2.1 I.out.2.2.1 I.out.2.2.2 rfl (by decide) _ L'.length (ints (flat L')) rfl (HOb.out.row.alloc _) ⟨wr.heap.size + 1, 0, none⟩ 1 1 [.int .i64 a, .int .i64 b, .int .i64 c] rfl rfl ?d0 (three_one _ _ _) (by decide) ?d1 ?d2 ?d3 _ rfl ?_)
          case d0 => exact fun j u hj => cell_three_any _ _ _ _ 96 (by simp) j u hj
          case d1 => unfold maxLen; omega
          case d2 => omega
          case d3 => simp <;> omega
          intro g4 cap4 w4 hown4 hgrow4 hat4 hlt4
          have HF4 : Hid (OwnE w0 w4 (.slice (some ⟨g4, 0, none⟩) (L'.length + 1) cap4) (L' ++ [(a, b, c)])) := (HOb.out.grow ((Below.refl _ _).alloc (Nat.le_refl _) (.cells #[.int .i64 a, .int .i64 b, .int .i64 c] 96))).app hgrow4 hown4
          clear hown4 hgrow4 hat4 hlt4
          go_wp2_with fail
          go_roundw
          case rel => exact ⟨k + 1, true, (L' ++ [(a, b, c)]), by omega, by go_num, rfl, HF4, by simp <;> omega⟩
          case measure => simp [intOf]; omega
        · rcases Int.lt_trichotomy q b with hx2 | hx2 | hx2
          · have D1 : decide (p < a) = false := by simp; omega
            have D2 : (p == a) = true := by simp; omega
            have D3 : decide (q ≤ b) = true := by simp; omega
            have D4 : (a != p) = false := by simp; omega
            have D5 : (b != q) = true := by simp; omega
            clear hx1 hx2
            go_wp2_with (at_builtin; refine wpList_append_lies _ rfl _ _ 27 rfl w0.heap.size 96 iE (.agg #[.int .i64 0, .int .i64 0, .int .i64 0]) 3 24 Try.underlying27 I.out.1 I.out.2.1 I.out.2.2.1 I.out.2.2.2 rfl (by decide) _ L'.length (ints (flat L')) rfl (HOb.out.row.alloc _) ⟨wr.heap.size + 1, 0, none⟩ 1 1 [.int .i64 a, .int .i64 b, .int .i64 c] rfl rfl ?d0 (three_one _ _ _) (by decide) ?d1 ?d2 ?d3 _ rfl ?_)
            case d0 => exact fun j u hj => cell_three_any _ _ _ _ 96 (by simp) j u hj
            case d1 => unfold maxLen; omega
            case d2 => omega
            case d3 => simp <;> omega
            intro g4 cap4 w4 hown4 hgrow4 hat4 hlt4
            have HF4 : Hid (OwnE w0 w4 (.slice (some ⟨g4, 0, none⟩) (L'.length + 1) cap4) (L' ++ [(a, b, c)])) := (HOb.out.grow ((Below.refl _ _).alloc (Nat.le_refl _) (.cells #[.int .i64 a, .int .i64 b, .int .i64 c] 96))).app hgrow4 hown4
            clear hown4 hgrow4 hat4 hlt4
            go_wp2_with fail
            go_roundw
            case rel => exact ⟨k + 1, true, (L' ++ [(a, b, c)]), by omega, by go_num, rfl, HF4, by simp <;> omega⟩
            case measure => simp [intOf]; omega
          · have D1 : decide (p < a) = false := by simp; omega
            have D2 : (p == a) = true := by simp; omega
            have D3 : decide (q ≤ b) = true := by simp; omega
            have D4 : (a != p) = false := by simp; omega
            have D5 : (b != q) = false := by simp; omega
            clear hx1 hx2
            go_wp2_with fail
            go_roundw
            case rel => exact ⟨k + 1, true, L', by omega, by go_num, rfl, HOb, by simp <;> omega⟩
            case measure => simp [intOf]; omega
          · have D1 : decide (p < a) = false := by simp; omega
            have D2 : (p == a) = true := by simp; omega
            have D3 : decide (q ≤ b) = false := by simp; omega
            have D4 : (a != p) = false := by simp; omega
            have D5 : (b != q) = true := by simp; omega
            clear hx1 hx2
            go_wp2_with (at_builtin; refine wpList_append_lies _ rfl _ _ 27 rfl w0.heap.size 96 iE (.agg #[.int .i64 0, .int .i64 0, .int .i64 0]) 3 24 Try.underlying27 I.out.1 I.out.2.1 I.out.2.2.1 I.out.2.2.2 rfl (by decide) _ L'.length (ints (flat L')) rfl (HOb.out.row.alloc _) ⟨wr.heap.size + 1, 0, none⟩ 1 1 [.int .i64 a, .int .i64 b, .int .i64 c] rfl rfl ?d0 (three_one _ _ _) (by decide) ?d1 ?d2 ?d3 _ rfl ?_)
            case d0 => exact fun j u hj => cell_three_any _ _ _ _ 96 (by simp) j u hj
            case d1 => unfold maxLen; omega
            case d2 => omega
            case d3 => simp <;> omega
            intro g4 cap4 w4 hown4 hgrow4 hat4 hlt4
            have HF4 : Hid (OwnE w0 w4 (.slice (some ⟨g4, 0, none⟩) (L'.length + 1) cap4) (L' ++ [(a, b, c)])) := (HOb.out.grow ((Below.refl _ _).alloc (Nat.le_refl _) (.cells #[.int .i64 a, .int .i64 b, .int .i64 c] 96))).app hgrow4 hown4
            clear hown4 hgrow4 hat4 hlt4
            go_wp2_with fail
            go_roundw
            case rel => exact ⟨k + 1, true, (L' ++ [(a, b, c)]), by omega, by go_num, rfl, HF4, by simp <;> omega⟩
            case measure => simp [intOf]; omega
        · have D1 : decide (p < a) = false := by simp; omega
          have D2 : (p == a) = false := by simp; omega
          have D4 : (a != p) = true := by simp; omega
          clear hx1
          go_wp2_with (at_builtin; refine wpList_append_lies _ rfl _ _ 27 rfl w0.heap.size 96 iE (.agg #[.int .i64 0, .int .i64 0, .int .i64 0]) 3 24 Try.underlying27 I.out.1 I.out.2.1 I.out.2.2.1 I.out.2.2.2 rfl (by decide) _ L'.length (ints (flat L')) rfl (HOb.out.row.alloc _) ⟨wr.heap.size + 1, 0, none⟩ 1 1 [.int .i64 a, .int .i64 b, .int .i64 c] rfl rfl ?d0 (three_one _ _ _) (by decide) ?d1 ?d2 ?d3 _ rfl ?_)
          case d0 => exact fun j u hj => cell_three_any _ _ _ _ 96 (by simp) j u hj
          case d1 => unfold maxLen; omega
          case d2 => omega
          case d3 => simp <;> omega
          intro g4 cap4 w4 hown4 hgrow4 hat4 hlt4
          have HF4 : Hid (OwnE w0 w4 (.slice (some ⟨g4, 0, none⟩) (L'.length + 1) cap4) (L' ++ [(a, b, c)])) := (HOb.out.grow ((Below.refl _ _).alloc (Nat.le_refl _) (.cells #[.int .i64 a, .int .i64 b, .int .i64 c] 96))).app hgrow4 hown4
          clear hown4 hgrow4 hat4 hlt4
          go_wp2_with fail
          go_roundw
          case rel => exact ⟨k + 1, true, (L' ++ [(a, b, c)]), by omega, by go_num, rfl, HF4, by simp <;> omega⟩
          case measure => simp [intOf]; omega
    · obtain rfl : n = k := by omega
      have hge : ¬ ((n : Int) < (n : Int)) := by omega
      have hwr : w.heap.size < wr.heap.size := by omega
      cases pt
      · simp only [Bool.false_eq_true, if_false, Nat.add_zero] at hlen
        go_wp2_with (at_builtin; refine wpList_append_lies _ rfl _ _ 27 rfl w0.heap.size 96 iE (.agg #[.int .i64 0, .int .i64 0, .int .i64 0]) 3 24 Try.underlying27 I.out.1 I.out.2.1 I.out.2.2.1 I.out.2.2.2 rfl (by decide) _ L'.length (ints (flat L')) rfl (hO.out.row.alloc _) ⟨wr.heap.size, 0, none⟩ 1 1 [.int .i64 p, .int .i64 q, .int .i64 r] rfl rfl ?d0 (three_one _ _ _) (by decide) ?d1 ?d2 ?d3 _ rfl ?_)
        case d1 => unfold maxLen; omega
        case d2 => omega
        case d3 => omega
        intro g4 cap4 w4 hown4 hgrow4 hat4 hlt4
        have HF4 : Hid (OwnE w0 w4 (.slice (some ⟨g4, 0, none⟩) (L'.length + 1) cap4) (L' ++ [(p, q, r)])) := (hO.out.grow ((Below.refl _ _).alloc (Nat.le_refl _) (.cells #[.int .i64 p, .int .i64 q, .int .i64 r] 96))).app hgrow4 hown4
        have hll4 : (L' ++ [(p, q, r)]).length = L'.length + 1 := by simp
        clear hown4 hgrow4 hat4 hlt4
        go_wp2_with fail
        refine bodyPost_ret (v := .slice (some ⟨g4, 0, none⟩) (L'.length + 1) cap4) (by simp [results, Try.results117, go_sem]) rfl ⟨_, L' ++ [(p, q, r)], rfl, ?_, by rw [hll4]; omega, HBw.out.trans (HF4.out.below.mono (by omega))⟩
        exact (HF4.out.toRowO (by rw [hll4]; omega)).wide (by omega) (Nat.le_refl _)
      · simp only [if_true] at hlen
        go_wp2_with fail
        refine bodyPost_ret (v := .slice oa L'.length oc) (by simp [results, Try.results117, go_sem]) rfl ⟨_, L', rfl, ?_, by omega, HBw.out.trans (hO.out.below.mono (by omega))⟩
        exact (hO.out.toRowO (by omega)).wide (by omega) (Nat.le_refl _)

theorem Cur.below {w w' : World} {C : Nat} {a : Option Addr} {n cp i : Nat} (h : Cur w C a n cp i) (b : Below w.heap.size w w') : Cur w' C a n cp i := by
  obtain ⟨q, hq⟩ := h.c2
  exact h.keep (Else.of_below b) h.le.1 (by rw [b.cell (p := ⟨C, 0, none⟩) h.lt]; exact h.c0) (by rw [b.cell (p := ⟨C, 1, none⟩) h.lt]; exact h.c1) ⟨q, by rw [b.cell (p := ⟨C, 2, none⟩) h.lt]; exact hq⟩ (fun o => by rw [b.frozen (p := ⟨C, o, none⟩) h.lt]; exact h.frz o)
theorem Else.set' {C X : Nat} {w w' : World} (h : Else C w w') (hX : w.heap.size ≤ X) (j : Nat) (u : Value) : Else C w (w'.setCell ⟨X, j, none⟩ u) :=
  ⟨h.1, h.2.1, h.2.2.1, by simpa [World.setCell] using h.2.2.2.1, fun b hb hn => (Below.heap_setCell _ _ _ _ (show b ≠ X by omega)).trans (h.2.2.2.2 b hb hn)⟩
/-- What holds at the head of a drawn graph's rounds: R the result's cell, X the graph's struct. -/
structure DgS (w wr : World) (C : Nat) (a : Option Addr) (n cp : Nat) (m : Int) (R X H : Nat) (gv : Value) (L' : List Ed) : Prop where
  old : ∀ p : Addr, a = some p → p.block < w.heap.size
  cur : ∃ i, Cur wr C a n cp i
  fr : Else C w wr
  ord : C < w.heap.size ∧ w.heap.size ≤ R ∧ R < X ∧ X < wr.heap.size
  r0 : wr.cell? ⟨R, 0, none⟩ = some (.int .i64 0) ∧ wr.cell? ⟨R, 1, none⟩ = some (.slice none 0 0)
  rf : ∀ o, wr.frozen? ⟨R, o, none⟩ = false
  x0 : wr.cell? ⟨X, 0, none⟩ = some (.int .i64 m)
  x1 : wr.cell? ⟨X, 1, none⟩ = some gv
  xf : ∀ o, wr.frozen? ⟨X, o, none⟩ = false
  row : ∃ lo, RowO wr lo H gv L' ∧ X < lo
  hH : H ≤ wr.heap.size
  len : L'.length ≤ 60
theorem DgS.else_ {w wr w2 : World} {C n cp R X H : Nat} {a : Option Addr} {m : Int} {gv : Value} {L' : List Ed} (h : DgS w wr C a n cp m R X H gv L') (he : Else C wr w2) (hc : ∃ i, Cur w2 C a n cp i) : DgS w w2 C a n cp m R X H gv L' := by
  have o := h.ord
  have hs := he.2.2.2.1
  have hH := h.hH
  have bk : ∀ b, b < wr.heap.size → b ≠ C → w2.heap[b]? = wr.heap[b]? := he.2.2.2.2
  have cR : ∀ o', w2.cell? ⟨R, o', none⟩ = wr.cell? ⟨R, o', none⟩ := fun o' => World.cell?_of_block (w := wr) (a := ⟨R, o', none⟩) (bk R (by omega) (by omega))
  have cX : ∀ o', w2.cell? ⟨X, o', none⟩ = wr.cell? ⟨X, o', none⟩ := fun o' => World.cell?_of_block (w := wr) (a := ⟨X, o', none⟩) (bk X (by omega) (by omega))
  obtain ⟨lo, h1, h2⟩ := h.row
  exact ⟨h.old, hc, h.fr.trans he, ⟨o.1, o.2.1, o.2.2.1, by omega⟩, ⟨by rw [cR]; exact h.r0.1, by rw [cR]; exact h.r0.2⟩, fun o' => by rw [World.frozen?_of_block (w := wr) (a := ⟨R, o', none⟩) (bk R (by omega) (by omega))]; exact h.rf o', by rw [cX]; exact h.x0, by rw [cX]; exact h.x1, fun o' => by rw [World.frozen?_of_block (w := wr) (a := ⟨X, o', none⟩) (bk X (by omega) (by omega))]; exact h.xf o', ⟨lo, h1.else_ he hH (by omega), h2⟩, by omega, h.len⟩
theorem DgS.grow {w wr w2 : World} {C n cp R X H : Nat} {a : Option Addr} {m : Int} {gv : Value} {L' : List Ed} (h : DgS w wr C a n cp m R X H gv L') (b : Below wr.heap.size wr w2) : DgS w w2 C a n cp m R X H gv L' := by
  obtain ⟨i, hc⟩ := h.cur
  exact h.else_ (Else.of_below b) ⟨i, hc.below b⟩
theorem DgS.drewN {w wr : World} {C n cp R X H : Nat} {a : Option Addr} {m : Int} {gv : Value} {L' : List Ed} (h : DgS w wr C a n cp m R X H gv L') (k : Nat) : DgS w (wr.drewN k) C a n cp m R X H gv L' := h.grow (below_drewN wr k)
theorem Cur.far {w wr : World} {C n cp i E j : Nat} {a : Option Addr} {u : Value} (hc : Cur wr C a n cp i) (old : ∀ p : Addr, a = some p → p.block < w.heap.size) (hC : C < w.heap.size) (hE : w.heap.size ≤ E) : Cur (wr.setCell ⟨E, j, none⟩ u) C a n cp i := by
  have bk : ∀ b, b ≠ E → (wr.setCell ⟨E, j, none⟩ u).heap[b]? = wr.heap[b]? := fun b hb => Below.heap_setCell _ _ _ _ hb
  have sz : (wr.setCell ⟨E, j, none⟩ u).heap.size = wr.heap.size := by simp [World.setCell]
  obtain ⟨q, hq⟩ := hc.c2
  have cc : ∀ b o', b ≠ E → (wr.setCell ⟨E, j, none⟩ u).cell? ⟨b, o', none⟩ = wr.cell? ⟨b, o', none⟩ := fun b o' hb => World.cell?_of_block (w := wr) (a := ⟨b, o', none⟩) (bk b hb)
  refine ⟨by rw [cc C _ (by omega)]; exact hc.c0, by rw [cc C _ (by omega)]; exact hc.c1, ⟨q, by rw [cc C _ (by omega)]; exact hq⟩, fun o' => by rw [World.frozen?_of_block (w := wr) (a := ⟨C, o', none⟩) (bk C (by omega))]; exact hc.frz o', by rw [sz]; exact hc.lt, hc.le, fun hn => ?_⟩
  obtain ⟨b, off, e1, e2, e3, e4⟩ := hc.bytes hn
  have hb : b < w.heap.size := old _ e1
  refine ⟨b, off, e1, by rw [sz]; exact e2, e3, fun x hx => ?_⟩
  obtain ⟨z, h5, h6⟩ := e4 x hx
  exact ⟨z, by rw [cc b _ (by omega)]; exact h5, h6⟩
/-- A box of the round is written. -/
theorem DgS.box {w wr : World} {C n cp R X H E j : Nat} {a : Option Addr} {m : Int} {gv u : Value} {L' : List Ed} (h : DgS w wr C a n cp m R X H gv L') (hE : X < E) (hH : H ≤ E) : DgS w (wr.setCell ⟨E, j, none⟩ u) C a n cp m R X H gv L' := by
  have o := h.ord
  have bk : ∀ b, b ≠ E → (wr.setCell ⟨E, j, none⟩ u).heap[b]? = wr.heap[b]? := fun b hb => Below.heap_setCell _ _ _ _ hb
  have sz : (wr.setCell ⟨E, j, none⟩ u).heap.size = wr.heap.size := by simp [World.setCell]
  obtain ⟨i, hc⟩ := h.cur
  have cc : ∀ b o', b ≠ E → (wr.setCell ⟨E, j, none⟩ u).cell? ⟨b, o', none⟩ = wr.cell? ⟨b, o', none⟩ := fun b o' hb => World.cell?_of_block (w := wr) (a := ⟨b, o', none⟩) (bk b hb)
  have ff : ∀ b o', b ≠ E → (wr.setCell ⟨E, j, none⟩ u).frozen? ⟨b, o', none⟩ = wr.frozen? ⟨b, o', none⟩ := fun b o' hb => World.frozen?_of_block (w := wr) (a := ⟨b, o', none⟩) (bk b hb)
  obtain ⟨lo, h1, h2⟩ := h.row
  exact ⟨h.old, ⟨i, hc.far h.old o.1 (by omega)⟩, h.fr.set' (by omega) j u, ⟨o.1, o.2.1, o.2.2.1, by omega⟩, ⟨by rw [cc R _ (by omega)]; exact h.r0.1, by rw [cc R _ (by omega)]; exact h.r0.2⟩, fun o' => by rw [ff R _ (by omega)]; exact h.rf o', by rw [cc X _ (by omega)]; exact h.x0, by rw [cc X _ (by omega)]; exact h.x1, fun o' => by rw [ff X _ (by omega)]; exact h.xf o', ⟨lo, h1.setCell (p := ⟨E, j, none⟩) (.inr hH) u, h2⟩, by rw [sz]; exact h.hH, h.len⟩
/-- The graph's edges are another row. -/
theorem DgS.edges {w wr : World} {C n cp R X H lo : Nat} {a : Option Addr} {m : Int} {gv rv : Value} {L' L2 : List Ed} (h : DgS w wr C a n cp m R X H gv L') (hr : RowO wr lo wr.heap.size rv L2) (hlo : X < lo) (hl : L2.length ≤ 60) : DgS w (wr.setCell ⟨X, 1, none⟩ rv) C a n cp m R X wr.heap.size rv L2 := by
  have o := h.ord
  have bk : ∀ b, b ≠ X → (wr.setCell ⟨X, 1, none⟩ rv).heap[b]? = wr.heap[b]? := fun b hb => Below.heap_setCell _ _ _ _ hb
  have sz : (wr.setCell ⟨X, 1, none⟩ rv).heap.size = wr.heap.size := by simp [World.setCell]
  obtain ⟨i, hc⟩ := h.cur
  have cc : ∀ b o', b ≠ X → (wr.setCell ⟨X, 1, none⟩ rv).cell? ⟨b, o', none⟩ = wr.cell? ⟨b, o', none⟩ := fun b o' hb => World.cell?_of_block (w := wr) (a := ⟨b, o', none⟩) (bk b hb)
  have ff : ∀ b o', b ≠ X → (wr.setCell ⟨X, 1, none⟩ rv).frozen? ⟨b, o', none⟩ = wr.frozen? ⟨b, o', none⟩ := fun b o' hb => World.frozen?_of_block (w := wr) (a := ⟨b, o', none⟩) (bk b hb)
  exact ⟨h.old, ⟨i, hc.far h.old o.1 (by omega)⟩, h.fr.set' (by omega) 1 rv, ⟨o.1, o.2.1, o.2.2.1, by omega⟩, ⟨by rw [cc R _ (by omega)]; exact h.r0.1, by rw [cc R _ (by omega)]; exact h.r0.2⟩, fun o' => by rw [ff R _ (by omega)]; exact h.rf o', by rw [World.cell?_setCell_other _ _ _ _ (by simp)]; exact h.x0, World.cell?_setCell_same _ _ _ h.x1, fun o' => by simpa using h.xf o', ⟨lo, hr.setCell (p := ⟨X, 1, none⟩) (.inl hlo) rv, hlo⟩, by rw [sz]; exact Nat.le_refl _, hl⟩

end Go.Proofs.Ytjenjdhoblcohaa
