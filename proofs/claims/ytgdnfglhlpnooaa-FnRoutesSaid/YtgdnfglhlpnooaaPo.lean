/- The model's table functions once more: what they answer lies in memory of its own. -/
import Derived.Test.YtgdnfglhlpnooaaPb
import Derived.Test.YtgdnfglhlpnooaaPh
namespace Go.Proofs.Ytgdnfglhlpnooaa
open Go.RowKit

/-- A row, and that it lies in a block of the call's own. -/
structure RowT (w : World) (lo hi : Nat) (v : Value) (n : Nat) (L : List Rt) : Prop where
  row : Row 3 w lo hi v n (flat L)
  own : w.ownsRow lo 43 3 v n (ints (flat L))
  top : ∀ k, v.ownBlock = some k → k < hi
theorem ownsRow_low {w : World} {base base' : Nat} {e : TypeId} {size : Nat} {v : Value} {n : Nat} {xs : List Value} (h : w.ownsRow base e size v n xs) (hb : base' ≤ base) : w.ownsRow base' e size v n xs := by
  obtain ⟨h1, h2⟩ := h
  refine ⟨h1, ?_⟩
  rcases h2 with h2 | ⟨g, cap, cur, e1, e2, e3⟩
  · exact .inl h2
  · exact .inr ⟨g, cap, cur, e1, Nat.le_trans hb e2, e3⟩
theorem RowT.slice {w : World} {lo hi n : Nat} {v : Value} {L : List Rt} (h : RowT w lo hi v n L) : ∃ a c, v = .slice a n c := h.row.slice
theorem RowT.wide {w : World} {lo hi lo' hi' n : Nat} {v : Value} {L : List Rt} (h : RowT w lo hi v n L) (hl : lo' ≤ lo) (hh : hi ≤ hi') : RowT w lo' hi' v n L := ⟨h.row.wide hl hh, ownsRow_low h.own hl, fun k e => Nat.lt_of_lt_of_le (h.top k e) hh⟩
theorem RowT.setCell {w : World} {lo hi n : Nat} {v : Value} {L : List Rt} (h : RowT w lo hi v n L) {p : Addr} (hp : p.block < lo ∨ hi ≤ p.block) (u : Value) : RowT (w.setCell p u) lo hi v n L :=
  ⟨h.row.setCell hp u, h.own.kept (row := some p.block) ⟨rfl, rfl, rfl, by simp [World.setCell], fun b _ hb => Below.heap_setCell _ _ _ _ (fun e => hb (by rw [e]))⟩ (by
    cases hv : v.ownBlock with
    | none => exact .inl rfl
    | some k => exact .inr (fun e => by have h1 := (h.own.lt k hv).1; have h2 := h.top k hv; have h3 := Option.some.inj e; omega)), h.top⟩
theorem RowT.else_ {w wr : World} {g lo hi n : Nat} {v : Value} {L : List Rt} (h : RowT w lo hi v n L) (ho : Else g w wr) (hh : hi ≤ w.heap.size) (hg : hi ≤ g ∨ g < lo) : RowT wr lo hi v n L :=
  ⟨h.row.else_ ho hh hg, h.own.kept (row := some g) ⟨ho.1, ho.2.1, ho.2.2.1, ho.2.2.2.1, fun b hb hn => ho.2.2.2.2 b hb (fun e => hn (by rw [e]))⟩ (by
    cases hv : v.ownBlock with
    | none => exact .inl rfl
    | some k => exact .inr (fun e => by have h1 := (h.own.lt k hv).1; have h2 := h.top k hv; have h3 := Option.some.inj e; omega)), h.top⟩
theorem RowT.below {w w' : World} {lo hi n : Nat} {v : Value} {L : List Rt} (h : RowT w lo hi v n L) (hb : Below w.heap.size w w') (hh : hi ≤ w.heap.size) : RowT w' lo hi v n L :=
  ⟨h.row.below hb hh, h.own.kept (row := none) ⟨hb.os, hb.tape, hb.output, hb.size, fun b hl _ => hb.block b hl⟩ (by
    cases v.ownBlock with
    | none => exact .inl rfl
    | some k => exact .inr (by simp)), h.top⟩
theorem OutT.takeO {w3 wr : World} {X : Nat} {O : List Rt} (h : OutT w3 wr X O) (hl : O.length ≤ 1100000) : ∃ ra rc, wr.cell? ⟨X, 0, none⟩ = some (.slice ra O.length rc) ∧ RowT wr (X + 1) wr.heap.size (.slice ra O.length rc) O.length O := by
  obtain ⟨_, _, _, rv, h4, h5⟩ := h
  obtain ⟨ra, rc, rfl⟩ := own_slice h5
  exact ⟨ra, rc, h4, row_of_own h5 hl, h5, fun k e => (h5.lt k e).2⟩
def TabPostO (L : List Rt) (w : World) (e : Ending) (w' : World) : Prop := ∃ rv, e = .returned (.agg #[rv]) ∧ RowT w' w.heap.size w'.heap.size rv L.length L ∧ Below w.heap.size w w'
def TabBPostO (L : List Rt) (ok : Bool) (w : World) (e : Ending) (w' : World) : Prop := ∃ rv, e = .returned (.tuple #[.agg #[rv], .bool ok]) ∧ RowT w' w.heap.size w'.heap.size rv L.length L ∧ Below w.heap.size w w'
set_option maxRecDepth 100000 in
set_option maxHeartbeats 4000000 in
theorem scopy_own (lo hi n : Nat) (v : Value) (L : List Rt) (w : World) (hL : L.length = n) (hr : Row 3 w lo hi v n (flat L)) (hh : hi ≤ w.heap.size) :
    Calls Try.prog 53 #[.agg #[v]] w (TabPostO L w) := by
  obtain ⟨ad, cp, rfl, hn, hc⟩ := hr.opened
  have HC := Lib.hid hc
  have HL := Lib.hid hL
  obtain ⟨iI, hi0, hz0, hz1, hz2⟩ := info_parts Try.info43r
  have I := Lib.hid (And.intro hi0 (And.intro hz0 (And.intro hz1 hz2)))
  clear hi0 hz0 hz1 hz2
  clear hr hc hL
  go_enter Try.func53, Try.ntmps53
  go_wp2_with fail
  have x0 : (((w.alloc (.cells #[.slice ad n cp] 30)).alloc (.cells #[.slice none 0 0] 30)).alloc (.cells #[.slice none 0 0] 30)).cell? ⟨w.heap.size, 0, none⟩ = some (.slice ad n cp) := by simp [go_sem]
  have y0 : (((w.alloc (.cells #[.slice ad n cp] 30)).alloc (.cells #[.slice none 0 0] 30)).alloc (.cells #[.slice none 0 0] 30)).cell? ⟨w.heap.size + 1, 0, none⟩ = some (.slice none 0 0) := by simp [go_sem]
  have y1 : (((w.alloc (.cells #[.slice ad n cp] 30)).alloc (.cells #[.slice none 0 0] 30)).alloc (.cells #[.slice none 0 0] 30)).frozen? ⟨w.heap.size + 1, 0, none⟩ = false := by simp [go_sem]
  have HO : Hid (OutT (((w.alloc (.cells #[.slice ad n cp] 30)).alloc (.cells #[.slice none 0 0] 30)).alloc (.cells #[.slice none 0 0] 30)) (((w.alloc (.cells #[.slice ad n cp] 30)).alloc (.cells #[.slice none 0 0] 30)).alloc (.cells #[.slice none 0 0] 30)) (w.heap.size + 1 + 1) []) := OutT.start (by simp) (by simp [go_sem]) (by rw [new_at (by simp)]; rfl)
  have HB : Hid (Below w.heap.size w (((w.alloc (.cells #[.slice ad n cp] 30)).alloc (.cells #[.slice none 0 0] 30)).alloc (.cells #[.slice none 0 0] 30))) := by show Below _ _ _; go_grown
  have hs3 : (((w.alloc (.cells #[.slice ad n cp] 30)).alloc (.cells #[.slice none 0 0] 30)).alloc (.cells #[.slice none 0 0] 30)).heap.size = w.heap.size + 1 + 1 + 1 := by simp
  generalize ((w.alloc (.cells #[.slice ad n cp] 30)).alloc (.cells #[.slice none 0 0] 30)).alloc (.cells #[.slice none 0 0] 30) = w3 at *
  obtain ⟨X, hX⟩ : ∃ X, X = w.heap.size + 1 + 1 := ⟨_, rfl⟩
  obtain ⟨R, hR⟩ : ∃ R, R = w.heap.size + 1 := ⟨_, rfl⟩
  rw [← hX] at HO ⊢
  rw [← hR] at y0 y1 ⊢
  have n1 : w.heap.size < R := by omega
  have n2 : R < X := by omega
  have n3 : R ≠ X := by omega
  have n4 : X < w3.heap.size := by omega
  have n5 : w.heap.size < X := by omega
  clear hX hR hs3
  go_loopw [4] (fun i wr => ∃ k : Nat, k ≤ n ∧ i = .int .i64 (k : Int) ∧ Hid (OutT w3 wr X (L.take k))) (fun i _ => n - (intOf i).toNat)
  case atStart => exact ⟨0, Nat.zero_le _, rfl, HO⟩
  case round =>
    obtain ⟨k, hk, rfl, hR⟩ := hrel
    have hBw : Below w.heap.size w wr := HB.out.trans (hR.out.1.mono (by omega))
    have k0 : wr.cell? ⟨w.heap.size, 0, none⟩ = some (.slice ad n cp) := by rw [hR.out.1.cell (p := ⟨w.heap.size, 0, none⟩) n5]; exact x0
    have hXl := hR.out.size
    have hsz := hBw.size
    by_cases hlt : k < n
    case neg =>
      have hge : ¬ ((k : Int) < (n : Int)) := by omega
      obtain rfl : k = n := by omega
      have ht : L.take k = L := List.take_of_length_le (by rw [HL.out]; exact Nat.le_refl _)
      have HBw := Lib.hid hBw
      rw [ht] at hR
      have hrl : L.length ≤ 1100000 := by have := HL.out; omega
      obtain ⟨ra, rc, hrv, hrow⟩ := hR.out.takeO hrl
      have b0 : wr.cell? ⟨R, 0, none⟩ = some (.slice none 0 0) := by rw [hR.out.1.cell (p := ⟨R, 0, none⟩) n2]; exact y0
      have b1 : wr.frozen? ⟨R, 0, none⟩ = false := by rw [hR.out.1.frozen (p := ⟨R, 0, none⟩) n2]; exact y1
      have hrow2 := (hrow.setCell (p := ⟨R, 0, none⟩) (.inl (by show R < X + 1; omega)) (.slice ra L.length rc)).wide (lo' := w.heap.size) (hi' := (wr.setCell ⟨R, 0, none⟩ (.slice ra L.length rc)).heap.size) (by omega) (by simp [World.setCell])
      have r0 : (wr.setCell ⟨R, 0, none⟩ (.slice ra L.length rc)).cell? ⟨R, 0, none⟩ = some (.slice ra L.length rc) := World.cell?_setCell_same' _ _ _ (by rw [b0]; rfl)
      have Hrow := Lib.hid hrow2
      obtain ⟨ln, hln⟩ : ∃ ln, ln = L.length := ⟨_, rfl⟩
      rw [← hln] at hrv r0 Hrow
      have Hln := Lib.hid hln
      clear ht hBw hrow hrow2 hR hrl hln
      go_wp2_with fail
      refine bodyPost_ret (v := .agg #[.slice ra ln rc]) (by simp [results, Try.results53, go_sem, r0]) rfl ⟨_, rfl, ?_, ?_⟩
      · rw [← Hln.out]; exact Hrow.out
      · exact HBw.out.setCell (by show _ ≤ R; omega) _
    case pos =>
    obtain ⟨g, rfl, hg, hcell⟩ := HC.out (by omega)
    clear HC
    obtain ⟨a, b, c, hrk⟩ := at_of_lt (L := L) (i := k) (by rw [HL.out]; exact hlt)
    obtain ⟨r0, r1, r2⟩ := flat_at L k _ hrk
    have z0 : wr.cell? ⟨g, k * 3, none⟩ = some (.int .i64 a) := by rw [hBw.cell (p := ⟨g, k * 3, none⟩) (by show g < _; omega)]; exact hcell _ _ r0
    have z1 : wr.cell? ⟨g, k * 3 + 1, none⟩ = some (.int .i64 b) := by rw [hBw.cell (p := ⟨g, k * 3 + 1, none⟩) (by show g < _; omega)]; exact hcell _ _ r1
    have z2 : wr.cell? ⟨g, k * 3 + 2, none⟩ = some (.int .i64 c) := by rw [hBw.cell (p := ⟨g, k * 3 + 2, none⟩) (by show g < _; omega)]; exact hcell _ _ r2
    have q0 : (0 : Int) ≤ (k : Int) := by omega
    have q1 : (k : Int) < (n : Int) := by omega
    have hgl : g < wr.heap.size := by omega
    have hwl : w.heap.size < wr.heap.size := by omega
    have Hrk := Lib.hid hrk
    have hN := take_snoc3 hrk
    obtain ⟨Q, hQ⟩ : ∃ Q, Q = (L.take k) := ⟨_, rfl⟩
    have hll : (L.take k).length ≤ k := by rw [List.length_take]; exact Nat.min_le_left _ _
    rw [← hQ] at hR hN hll
    have HN := Lib.hid hN
    clear hQ hN r0 r1 r2 hrk hcell hBw
    obtain ⟨rv, hrv, hown⟩ := hR.out.2.2.2
    obtain ⟨ra, rc, hra⟩ := own_slice hown
    subst hra
    have hfX := hR.out.2.2.1
    have Hw := Lib.hid hown
    obtain ⟨m, hm⟩ : ∃ m, m = Q.length := ⟨_, rfl⟩
    rw [← hm] at hrv hll Hw
    have Hm := Lib.hid hm
    have hgq : g < wr.heap.size := by omega
    have hwq2 : w.heap.size < wr.heap.size := by omega
    have hXq : X < wr.heap.size := by omega
    clear hm hown
    go_wp2_with fail
    go_region_law ((refine step_append_lies _ rfl _ _ 28 rfl (X + 1) 43 iI (.agg #[.int .i64 0, .int .i64 0, .int .i64 0]) 3 24 Try.underlying28 I.out.1 I.out.2.1 I.out.2.2.1 I.out.2.2.2 rfl (by decide) _ m (ints (flat Q)) rfl (Hw.out.drew.alloc _) ⟨wr.heap.size, 0, none⟩ 1 1 (ints [a, b, c]) rfl rfl (fun j u hj => cells_new _ [a, b, c] 43 rfl j u hj) (ints_one _) (by decide) (by unfold maxLen; omega) (by omega) (by simp; omega) _ rfl ?_; intro g4 cap4 w4 hown4 hgrow4 hat4 hlt4; obtain ⟨⟨uu, hc4⟩, hf4, hF4⟩ := OutT.app hR.out.drew (by rw [← Hm.out]; exact Hw.out.drew) hgrow4 (show m + 1 = Q.length + 1 by rw [Hm.out]) hown4; have HF := Lib.hid hF4; clear hF4 hown4 hgrow4 hat4 hlt4))
    all_goals
      go_wp2_with fail
      go_roundw
      case rel => exact ⟨k + 1, by omega, by go_num, by rw [HN.out]; exact HF.out⟩
      case measure => simp [intOf]; omega


end Go.Proofs.Ytgdnfglhlpnooaa
