/- Copies of lists, by both. -/
import Derived.Test.YtophppnllkadoaaPa
import Derived.StillTailTactics
namespace Go.Proofs.Ytophppnllkadoaa
open Go.RowKit

theorem ownsRow_drewN {w : World} {b0 n k : Nat} {e : TypeId} {v : Value} {xs : List Value} (h : w.ownsRow b0 e k v n xs) (q : Nat) : (w.drewN q).ownsRow b0 e k v n xs := h
theorem _root_.Go.World.ownsRow.drewN2 {w : World} {b0 n k : Nat} {e : TypeId} {v : Value} {xs : List Value} (h : w.ownsRow b0 e k v n xs) (q : Nat) : (w.drewN q).ownsRow b0 e k v n xs := h
theorem scopy_any (lo hi n : Nat) (v : Value) (L : List Hv) (w : World) (hL : L.length = n) (hr : Row 3 w lo hi v n (flat L)) (hh : hi ≤ w.heap.size) :
    Calls Try.prog 77 #[.agg #[v]] w (TabPost L w) := by
  obtain ⟨ad, cp, rfl, hn, hc⟩ := hr.opened
  have HC := Lib.hid hc
  have HL := Lib.hid hL
  obtain ⟨iI, hi0, hz0, hz1, hz2⟩ := info_parts Try.info43r
  have I := Lib.hid (And.intro hi0 (And.intro hz0 (And.intro hz1 hz2)))
  clear hi0 hz0 hz1 hz2
  clear hr hc hL
  go_enter Try.func77, Try.ntmps77
  go_wp2_with fail
  have x0 : (((w.alloc (.cells #[.slice ad n cp] 38)).alloc (.cells #[.slice none 0 0] 38)).alloc (.cells #[.slice none 0 0] 38)).cell? ⟨w.heap.size, 0, none⟩ = some (.slice ad n cp) := by simp [go_sem]
  have y0 : (((w.alloc (.cells #[.slice ad n cp] 38)).alloc (.cells #[.slice none 0 0] 38)).alloc (.cells #[.slice none 0 0] 38)).cell? ⟨w.heap.size + 1, 0, none⟩ = some (.slice none 0 0) := by simp [go_sem]
  have y1 : (((w.alloc (.cells #[.slice ad n cp] 38)).alloc (.cells #[.slice none 0 0] 38)).alloc (.cells #[.slice none 0 0] 38)).frozen? ⟨w.heap.size + 1, 0, none⟩ = false := by simp [go_sem]
  have HO : Hid (OutT (((w.alloc (.cells #[.slice ad n cp] 38)).alloc (.cells #[.slice none 0 0] 38)).alloc (.cells #[.slice none 0 0] 38)) (((w.alloc (.cells #[.slice ad n cp] 38)).alloc (.cells #[.slice none 0 0] 38)).alloc (.cells #[.slice none 0 0] 38)) (w.heap.size + 1 + 1) []) := OutT.start (by simp) (by simp [go_sem]) (by rw [new_at (by simp)]; rfl)
  have HB : Hid (Below w.heap.size w (((w.alloc (.cells #[.slice ad n cp] 38)).alloc (.cells #[.slice none 0 0] 38)).alloc (.cells #[.slice none 0 0] 38))) := by show Below _ _ _; go_grown
  have hs3 : (((w.alloc (.cells #[.slice ad n cp] 38)).alloc (.cells #[.slice none 0 0] 38)).alloc (.cells #[.slice none 0 0] 38)).heap.size = w.heap.size + 1 + 1 + 1 := by simp
  generalize ((w.alloc (.cells #[.slice ad n cp] 38)).alloc (.cells #[.slice none 0 0] 38)).alloc (.cells #[.slice none 0 0] 38) = w3 at *
  obtain ⟨X, hX⟩ : ∃ X, X = w.heap.size + 1 + 1 := ⟨_, rfl⟩
  obtain ⟨R, hR⟩ : ∃ R, R = w.heap.size + 1 := ⟨_, rfl⟩
  rw [← hX] at HO ⊢
  rw [← hR] at y0 y1 ⊢
  have n1 : w.heap.size < R := by omega
  have n2 : R < X := by omega
  have n3 : R ≠ X := by omega
  have n4 : X < w3.heap.size := by omega
  have n5 : w.heap.size < X := by omega
  clear hX hR hs3
  go_loopw [4] (fun i wr => ∃ k : Nat, k ≤ n ∧ i = .int .i64 (k : Int) ∧ Hid (OutT w3 wr X (L.take k))) (fun i _ => n - (intOf i).toNat)
  case atStart => exact ⟨0, Nat.zero_le _, rfl, HO⟩
  case round =>
    obtain ⟨k, hk, rfl, hR⟩ := hrel
    have hBw : Below w.heap.size w wr := HB.out.trans (hR.out.1.mono (by omega))
    have k0 : wr.cell? ⟨w.heap.size, 0, none⟩ = some (.slice ad n cp) := by rw [hR.out.1.cell (p := ⟨w.heap.size, 0, none⟩) n5]; exact x0
    have hXl := hR.out.size
    have hsz := hBw.size
    by_cases hlt : k < n
    case neg =>
      have hge : ¬ ((k : Int) < (n : Int)) := by omega
      obtain rfl : k = n := by omega
      have ht : L.take k = L := List.take_of_length_le (by rw [HL.out]; exact Nat.le_refl _)
      have HBw := Lib.hid hBw
      rw [ht] at hR
      have hrl : L.length ≤ 1100000 := by have := HL.out; omega
      obtain ⟨ra, rc, hrv, hrow⟩ := hR.out.take hrl
      have b0 : wr.cell? ⟨R, 0, none⟩ = some (.slice none 0 0) := by rw [hR.out.1.cell (p := ⟨R, 0, none⟩) n2]; exact y0
      have b1 : wr.frozen? ⟨R, 0, none⟩ = false := by rw [hR.out.1.frozen (p := ⟨R, 0, none⟩) n2]; exact y1
      have hrow2 := (hrow.setCell (p := ⟨R, 0, none⟩) (.inl (by show R < X + 1; omega)) (.slice ra L.length rc)).wide (lo' := w.heap.size) (hi' := (wr.setCell ⟨R, 0, none⟩ (.slice ra L.length rc)).heap.size) (by omega) (by simp [World.setCell])
      have r0 : (wr.setCell ⟨R, 0, none⟩ (.slice ra L.length rc)).cell? ⟨R, 0, none⟩ = some (.slice ra L.length rc) := World.cell?_setCell_same' _ _ _ (by rw [b0]; rfl)
      have Hrow := Lib.hid hrow2
      obtain ⟨ln, hln⟩ : ∃ ln, ln = L.length := ⟨_, rfl⟩
      rw [← hln] at hrv r0 Hrow
      have Hln := Lib.hid hln
      clear ht hBw hrow hrow2 hR hrl hln
      go_wp2_with fail
      refine bodyPost_ret (v := .agg #[.slice ra ln rc]) (by simp [results, Try.results77, go_sem, r0]) rfl ⟨_, rfl, ?_, ?_⟩
      · rw [← Hln.out]; exact Hrow.out
      · exact HBw.out.setCell (by show _ ≤ R; omega) _
    case pos =>
    obtain ⟨g, rfl, hg, hcell⟩ := HC.out (by omega)
    clear HC
    obtain ⟨a, b, c, hrk⟩ := at_of_lt (L := L) (i := k) (by rw [HL.out]; exact hlt)
    obtain ⟨r0, r1, r2⟩ := flat_at L k _ hrk
    have z0 : wr.cell? ⟨g, k * 3, none⟩ = some (.int .i64 a) := by rw [hBw.cell (p := ⟨g, k * 3, none⟩) (by show g < _; omega)]; exact hcell _ _ r0
    have z1 : wr.cell? ⟨g, k * 3 + 1, none⟩ = some (.int .i64 b) := by rw [hBw.cell (p := ⟨g, k * 3 + 1, none⟩) (by show g < _; omega)]; exact hcell _ _ r1
    have z2 : wr.cell? ⟨g, k * 3 + 2, none⟩ = some (.int .i64 c) := by rw [hBw.cell (p := ⟨g, k * 3 + 2, none⟩) (by show g < _; omega)]; exact hcell _ _ r2
    have q0 : (0 : Int) ≤ (k : Int) := by omega
    have q1 : (k : Int) < (n : Int) := by omega
    have hgl : g < wr.heap.size := by omega
    have hwl : w.heap.size < wr.heap.size := by omega
    have Hrk := Lib.hid hrk
    have hN := take_snoc3 hrk
    obtain ⟨Q, hQ⟩ : ∃ Q, Q = (L.take k) := ⟨_, rfl⟩
    have hll : (L.take k).length ≤ k := by rw [List.length_take]; exact Nat.min_le_left _ _
    rw [← hQ] at hR hN hll
    have HN := Lib.hid hN
    clear hQ hN r0 r1 r2 hrk hcell hBw
    obtain ⟨rv, hrv, hown⟩ := hR.out.2.2.2
    obtain ⟨ra, rc, hra⟩ := own_slice hown
    subst hra
    have hfX := hR.out.2.2.1
    have Hw := Lib.hid hown
    obtain ⟨m, hm⟩ : ∃ m, m = Q.length := ⟨_, rfl⟩
    rw [← hm] at hrv hll Hw
    have Hm := Lib.hid hm
    have hgq : g < wr.heap.size := by omega
    have hwq2 : w.heap.size < wr.heap.size := by omega
    have hXq : X < wr.heap.size := by omega
    clear hm hown
    go_wp2_with fail
    go_region_law ((refine step_append_lies _ rfl _ _ 36 rfl (X + 1) 43 iI (.agg #[.int .i64 0, .int .i64 0, .int .i64 0]) 3 24 Try.underlying36 I.out.1 I.out.2.1 I.out.2.2.1 I.out.2.2.2 rfl (by decide) _ m (ints (flat Q)) rfl (Hw.out.drew.alloc _) ⟨wr.heap.size, 0, none⟩ 1 1 (ints [a, b, c]) rfl rfl (fun j u hj => cells_new _ [a, b, c] 43 rfl j u hj) (ints_one _) (by decide) (by unfold maxLen; omega) (by omega) (by simp; omega) _ rfl ?_; intro g4 cap4 w4 hown4 hgrow4 hat4 hlt4; obtain ⟨⟨uu, hc4⟩, hf4, hF4⟩ := OutT.app hR.out.drew (by rw [← Hm.out]; exact Hw.out.drew) hgrow4 (show m + 1 = Q.length + 1 by rw [Hm.out]) hown4; have HF := Lib.hid hF4; clear hF4 hown4 hgrow4 hat4 hlt4))
    all_goals
      go_wp2_with fail
      go_roundw
      case rel => exact ⟨k + 1, by omega, by go_num, by rw [HN.out]; exact HF.out⟩
      case measure => simp [intOf]; omega

theorem append_zero (w : World) (t ty : TypeId) (base : Nat) (e : TypeId) (i : TypeInfo) (size : Nat) (ht : Try.prog.underlying t = some (.slice e)) (hi : Try.prog.info? e = some i) (v : Value) (n : Nat) (xs : List Value) (hown : w.ownsRow base e size v n xs) (p : Option Addr) (c : Nat) :
    (Builtin.append_ #[t, t] ty #[v, .slice p 0 c]).run Try.prog w = .ok v w := by
  rcases hown.2 with ⟨rfl, rfl⟩ | ⟨g, cap, cur, rfl, _, _, hnc, _⟩
  · cases p <;> simp [Builtin.append_, run_underlying ht, sizeOf, typeInfo, hi, Builtin.lenOf, Builtin.firstCells, loadCells, loadCellsFrom]
  · cases p <;> simp [Builtin.append_, run_underlying ht, sizeOf, typeInfo, hi, Builtin.lenOf, Builtin.firstCells, hnc, storeCells, loadCells, loadCellsFrom]
theorem own_base {w : World} {b0 b1 n k : Nat} {e : TypeId} {v : Value} {xs : List Value} (h : w.ownsRow b1 e k v n xs) (hb : b0 ≤ b1) : w.ownsRow b0 e k v n xs := by
  obtain ⟨h1, h2⟩ := h
  refine ⟨h1, ?_⟩
  rcases h2 with h2 | ⟨g, cap, cur, h3, h4, h5⟩
  · exact .inl h2
  · exact .inr ⟨g, cap, cur, h3, by omega, h5⟩
/-- A store into an elder block keeps a row of one's own above it. -/
theorem OwnR.store {T : TypeId} {k : Nat} {w wr : World} {v : Value} {n : Nat} {Z : List Int} {R : Nat} (hB : Below w.heap.size w wr) (h : wr.ownsRow (R + 1) T k v n (ints Z)) (hR : w.heap.size ≤ R) (u : Value) : OwnR T k w (wr.setCell ⟨R, 0, none⟩ u) v n Z :=
  ⟨hB.setCell (p := ⟨R, 0, none⟩) hR u, own_base (ownsRow_setCell_below (a := ⟨R, 0, none⟩) h (by show R < R + 1; omega) u) (by omega)⟩
theorem icp_any (lo hi n : Nat) (v : Value) (L : List Hv) (w : World) (hL : L.length = n) (hr : Row 3 w lo hi v n (flat L)) (hh : hi ≤ w.heap.size) :
    Calls Try.prog 78 #[.agg #[v]] w fun e w' => ∃ rv, e = .returned (.agg #[rv]) ∧ OwnR 43 3 w w' rv n (flat L) := by
  obtain ⟨ad, cp, rfl, hn, hc⟩ := hr.opened
  have HC := Lib.hid hc
  have hfl := flat_len L
  obtain ⟨iI, hi0, hz0, hz1, hz2⟩ := info_parts Try.info43r
  have I := Lib.hid (And.intro hi0 (And.intro hz0 (And.intro hz1 hz2)))
  clear hi0 hz0 hz1 hz2
  clear hr hc
  go_enter Try.func78, Try.ntmps78
  go_upto_region 1 with fail
  obtain ⟨w3, hw3⟩ : ∃ w3, w3 = ((w.alloc (.cells #[.slice ad n cp] 38)).alloc (.cells #[.slice none 0 0] 38)) := ⟨_, rfl⟩
  have x0 : w3.cell? ⟨w.heap.size, 0, none⟩ = some (.slice ad n cp) := by rw [hw3]; simp [go_sem]
  have y0 : w3.cell? ⟨w.heap.size + 1, 0, none⟩ = some (.slice none 0 0) := by rw [hw3]; simp [go_sem]
  have y1 : w3.frozen? ⟨w.heap.size + 1, 0, none⟩ = false := by rw [hw3]; simp [go_sem]
  have HB : Hid (Below w.heap.size w w3) := by rw [hw3]; show Below _ _ _; go_grown
  have hs3 : w3.heap.size = w.heap.size + 1 + 1 := by rw [hw3]; simp
  rw [← hw3]
  clear hw3
  by_cases h0 : n = 0
  case pos =>
    subst h0
    obtain rfl : L = [] := List.eq_nil_of_length_eq_zero hL
    go_wp2_with (at_builtin; refine wpList_plain rfl fun K hK => ?_; have hrun := append_zero w3 36 36 w.heap.size 43 iI 3 Try.underlying36 I.out.1 (.slice none 0 0) 0 [] (World.ownsRow_nil _ _ _ _) ad cp; unfold Oper.wp; simp [execOp, resolve, invoke, builtin, Act.eval, hrun, Result.andThen]; refine hK _ _ ?_; clear hK)
    have r0 : (w3.setCell ⟨w.heap.size + 1, 0, none⟩ (.slice none 0 0)).cell? ⟨w.heap.size + 1, 0, none⟩ = some (.slice none 0 0) := World.cell?_setCell_same' _ _ _ (by rw [y0]; rfl)
    go_wp2_with fail
    refine bodyPost_ret (v := .agg #[.slice none 0 0]) (by simp [results, Try.results78, go_sem, r0]) rfl ⟨_, rfl, ?_, ?_⟩
    · exact HB.out.setCell (by show _ ≤ w.heap.size + 1; omega) _
    · exact World.ownsRow_nil _ _ _ _
  case neg =>
  obtain ⟨g, rfl, hg, hcell⟩ := HC.out (by omega)
  clear HC
  have Hcell : Hid (∀ q z, (flat L)[q]? = some z → w3.cell? ⟨g, q, none⟩ = some (.int .i64 z)) := fun q z hz => by rw [HB.out.cell (p := ⟨g, q, none⟩) (by show g < _; omega)]; exact hcell q z hz
  have Hf := Lib.hid hfl
  have HL := Lib.hid hL
  clear hcell hfl hL
  go_wp2_with (at_builtin; refine wpList_append_lies _ rfl _ _ 36 rfl (w.heap.size + 1 + 1) 43 iI (.agg #[.int .i64 0, .int .i64 0, .int .i64 0]) 3 24 Try.underlying36 I.out.1 I.out.2.1 I.out.2.2.1 I.out.2.2.2 rfl (by decide) (.slice none 0 0) 0 [] rfl (World.ownsRow_nil _ _ _ _) ⟨g, 0, none⟩ n cp (ints (flat L)) rfl ?d0 ?d1 (ints_one _) ?d2 ?d3 ?d4 ?d5 _ rfl ?_)
  case d0 => rw [ints_len, Hf.out, HL.out]
  case d1 =>
    intro j u hj
    rw [add_none]
    unfold ints at hj
    rw [List.getElem?_map] at hj
    cases hz : (flat L)[j]? with
    | none => rw [hz] at hj; cases hj
    | some z => rw [hz] at hj; rw [Hcell.out j z hz]; exact hj
  case d2 => omega
  case d3 => unfold maxLen; omega
  case d4 => omega
  case d5 => omega
  intro g4 cap4 w4 hown4 hgrow4 hat4 hlt4
  have hb4 : Below w3.heap.size w3 w4 := ⟨hgrow4.os, hgrow4.tape, hgrow4.output, hgrow4.size, fun k hk => hgrow4.block k hk (by simp [Value.ownBlock])⟩
  have HB4 := Lib.hid (HB.out.trans (hb4.mono (by omega)))
  have c0 : w4.cell? ⟨w.heap.size + 1, 0, none⟩ = some (.slice none 0 0) := by rw [hb4.cell (p := ⟨w.heap.size + 1, 0, none⟩) (by show w.heap.size + 1 < w3.heap.size; omega)]; exact y0
  have c1 : w4.frozen? ⟨w.heap.size + 1, 0, none⟩ = false := by rw [hb4.frozen (p := ⟨w.heap.size + 1, 0, none⟩) (by show w.heap.size + 1 < w3.heap.size; omega)]; exact y1
  have r0 : (w4.setCell ⟨w.heap.size + 1, 0, none⟩ (.slice (some ⟨g4, 0, none⟩) n cap4)).cell? ⟨w.heap.size + 1, 0, none⟩ = some (.slice (some ⟨g4, 0, none⟩) n cap4) := World.cell?_setCell_same' _ _ _ (by rw [c0]; rfl)
  have HO := Lib.hid (OwnR.store (R := w.heap.size + 1) HB4.out hown4 (by omega) (.slice (some ⟨g4, 0, none⟩) n cap4))
  clear hown4 hgrow4 hat4 hlt4 hb4 x0 y0 y1
  go_wp2_with fail
  refine bodyPost_ret (v := .agg #[.slice (some ⟨g4, 0, none⟩) n cap4]) (by simp [results, Try.results78, go_sem, r0]) rfl ⟨_, rfl, ?_⟩
  exact HO.out


end Go.Proofs.Ytophppnllkadoaa
