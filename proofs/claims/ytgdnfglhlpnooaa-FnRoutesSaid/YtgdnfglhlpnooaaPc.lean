/- Copies of tables by the program. -/
import Derived.Test.YtgdnfglhlpnooaaPb
namespace Go.Proofs.Ytgdnfglhlpnooaa
open Go.RowKit


theorem append_zero (w : World) (t ty : TypeId) (base : Nat) (e : TypeId) (i : TypeInfo) (size : Nat) (ht : Try.prog.underlying t = some (.slice e)) (hi : Try.prog.info? e = some i) (v : Value) (n : Nat) (xs : List Value) (hown : w.ownsRow base e size v n xs) (p : Option Addr) (c : Nat) :
    (Builtin.append_ #[t, t] ty #[v, .slice p 0 c]).run Try.prog w = .ok v w := by
  rcases hown.2 with ⟨rfl, rfl⟩ | ⟨g, cap, cur, rfl, _, _, hnc, _⟩
  · cases p <;> simp [Builtin.append_, run_underlying ht, sizeOf, typeInfo, hi, Builtin.lenOf, Builtin.firstCells, loadCells, loadCellsFrom]
  · cases p <;> simp [Builtin.append_, run_underlying ht, sizeOf, typeInfo, hi, Builtin.lenOf, Builtin.firstCells, hnc, storeCells, loadCells, loadCellsFrom]
theorem own_base {w : World} {b0 b1 n k : Nat} {e : TypeId} {v : Value} {xs : List Value} (h : w.ownsRow b1 e k v n xs) (hb : b0 ≤ b1) : w.ownsRow b0 e k v n xs := by
  obtain ⟨h1, h2⟩ := h
  refine ⟨h1, ?_⟩
  rcases h2 with h2 | ⟨g, cap, cur, h3, h4, h5⟩
  · exact .inl h2
  · exact .inr ⟨g, cap, cur, h3, by omega, h5⟩
/-- A store into an elder block keeps a row of one's own above it. -/
theorem OwnR.store {T : TypeId} {k : Nat} {w wr : World} {v : Value} {n : Nat} {Z : List Int} {R : Nat} (hB : Below w.heap.size w wr) (h : wr.ownsRow (R + 1) T k v n (ints Z)) (hR : w.heap.size ≤ R) (u : Value) : OwnR T k w (wr.setCell ⟨R, 0, none⟩ u) v n Z :=
  ⟨hB.setCell (p := ⟨R, 0, none⟩) hR u, own_base (ownsRow_setCell_below (a := ⟨R, 0, none⟩) h (by show R < R + 1; omega) u) (by omega)⟩
set_option maxRecDepth 100000 in
set_option maxHeartbeats 4000000 in
theorem icp_any (lo hi n : Nat) (v : Value) (L : List Rt) (w : World) (hL : L.length = n) (hr : Row 3 w lo hi v n (flat L)) (hh : hi ≤ w.heap.size) :
    Calls Try.prog 55 #[.agg #[v]] w fun e w' => ∃ rv, e = .returned (.agg #[rv]) ∧ OwnR 43 3 w w' rv n (flat L) := by
  obtain ⟨ad, cp, rfl, hn, hc⟩ := hr.opened
  have HC := Lib.hid hc
  have hfl := flat_len L
  obtain ⟨iI, hi0, hz0, hz1, hz2⟩ := info_parts Try.info43r
  have I := Lib.hid (And.intro hi0 (And.intro hz0 (And.intro hz1 hz2)))
  clear hi0 hz0 hz1 hz2
  clear hr hc
  go_enter Try.func55, Try.ntmps55
  go_upto_region 1 with fail
  obtain ⟨w3, hw3⟩ : ∃ w3, w3 = ((w.alloc (.cells #[.slice ad n cp] 30)).alloc (.cells #[.slice none 0 0] 30)) := ⟨_, rfl⟩
  have x0 : w3.cell? ⟨w.heap.size, 0, none⟩ = some (.slice ad n cp) := by rw [hw3]; simp [go_sem]
  have y0 : w3.cell? ⟨w.heap.size + 1, 0, none⟩ = some (.slice none 0 0) := by rw [hw3]; simp [go_sem]
  have y1 : w3.frozen? ⟨w.heap.size + 1, 0, none⟩ = false := by rw [hw3]; simp [go_sem]
  have HB : Hid (Below w.heap.size w w3) := by rw [hw3]; show Below _ _ _; go_grown
  have hs3 : w3.heap.size = w.heap.size + 1 + 1 := by rw [hw3]; simp
  rw [← hw3]
  clear hw3
  by_cases h0 : n = 0
  case pos =>
    subst h0
    obtain rfl : L = [] := List.eq_nil_of_length_eq_zero hL
    go_wp2_with (at_builtin; refine wpList_plain rfl fun K hK => ?_; have hrun := append_zero w3 28 28 w.heap.size 43 iI 3 Try.underlying28 I.out.1 (.slice none 0 0) 0 [] (World.ownsRow_nil _ _ _ _) ad cp; unfold Oper.wp; simp [execOp, resolve, invoke, builtin, Act.eval, hrun, Result.andThen]; refine hK _ _ ?_; clear hK)
    have r0 : (w3.setCell ⟨w.heap.size + 1, 0, none⟩ (.slice none 0 0)).cell? ⟨w.heap.size + 1, 0, none⟩ = some (.slice none 0 0) := World.cell?_setCell_same' _ _ _ (by rw [y0]; rfl)
    go_wp2_with fail
    refine bodyPost_ret (v := .agg #[.slice none 0 0]) (by simp [results, Try.results55, go_sem, r0]) rfl ⟨_, rfl, ?_, ?_⟩
    · exact HB.out.setCell (by show _ ≤ w.heap.size + 1; omega) _
    · exact World.ownsRow_nil _ _ _ _
  case neg =>
  obtain ⟨g, rfl, hg, hcell⟩ := HC.out (by omega)
  clear HC
  have Hcell : Hid (∀ q z, (flat L)[q]? = some z → w3.cell? ⟨g, q, none⟩ = some (.int .i64 z)) := fun q z hz => by rw [HB.out.cell (p := ⟨g, q, none⟩) (by show g < _; omega)]; exact hcell q z hz
  have Hf := Lib.hid hfl
  have HL := Lib.hid hL
  clear hcell hfl hL
  go_wp2_with (at_builtin; refine wpList_append_lies _ rfl _ _ 28 rfl (w.heap.size + 1 + 1) 43 iI (.agg #[.int .i64 0, .int .i64 0, .int .i64 0]) 3 24 Try.underlying28 I.out.1 I.out.2.1 I.out.2.2.1 I.out.2.2.2 rfl (by decide) (.slice none 0 0) 0 [] rfl (World.ownsRow_nil _ _ _ _) ⟨g, 0, none⟩ n cp (ints (flat L)) rfl ?d0 ?d1 (ints_one _) ?d2 ?d3 ?d4 ?d5 _ rfl ?_)
  case d0 => rw [ints_len, Hf.out, HL.out]
  case d1 =>
    intro j u hj
    rw [add_none]
    unfold ints at hj
    rw [List.getElem?_map] at hj
    cases hz : (flat L)[j]? with
    | none => rw [hz] at hj; cases hj
    | some z => rw [hz] at hj; rw [Hcell.out j z hz]; exact hj
  case d2 => omega
  case d3 => unfold maxLen; omega
  case d4 => omega
  case d5 => omega
  intro g4 cap4 w4 hown4 hgrow4 hat4 hlt4
  have hb4 : Below w3.heap.size w3 w4 := ⟨hgrow4.os, hgrow4.tape, hgrow4.output, hgrow4.size, fun k hk => hgrow4.block k hk (by simp [Value.ownBlock])⟩
  have HB4 := Lib.hid (HB.out.trans (hb4.mono (by omega)))
  have c0 : w4.cell? ⟨w.heap.size + 1, 0, none⟩ = some (.slice none 0 0) := by rw [hb4.cell (p := ⟨w.heap.size + 1, 0, none⟩) (by show w.heap.size + 1 < w3.heap.size; omega)]; exact y0
  have c1 : w4.frozen? ⟨w.heap.size + 1, 0, none⟩ = false := by rw [hb4.frozen (p := ⟨w.heap.size + 1, 0, none⟩) (by show w.heap.size + 1 < w3.heap.size; omega)]; exact y1
  have r0 : (w4.setCell ⟨w.heap.size + 1, 0, none⟩ (.slice (some ⟨g4, 0, none⟩) n cap4)).cell? ⟨w.heap.size + 1, 0, none⟩ = some (.slice (some ⟨g4, 0, none⟩) n cap4) := World.cell?_setCell_same' _ _ _ (by rw [c0]; rfl)
  have HO := Lib.hid (OwnR.store (R := w.heap.size + 1) HB4.out hown4 (by omega) (.slice (some ⟨g4, 0, none⟩) n cap4))
  clear hown4 hgrow4 hat4 hlt4 hb4 x0 y0 y1
  go_wp2_with fail
  refine bodyPost_ret (v := .agg #[.slice (some ⟨g4, 0, none⟩) n cap4]) (by simp [results, Try.results55, go_sem, r0]) rfl ⟨_, rfl, ?_⟩
  exact HO.out

end Go.Proofs.Ytgdnfglhlpnooaa
