/- Copies of tables, and a table without a prefix, by the model. -/
import Derived.Test.YtgdnfglhlpnooaaPa
import Derived.StillTailTactics
namespace Go.Proofs.Ytgdnfglhlpnooaa
open Go.RowKit


theorem ownsRow_drewN {w : World} {b0 n k : Nat} {e : TypeId} {v : Value} {xs : List Value} (h : w.ownsRow b0 e k v n xs) (q : Nat) : (w.drewN q).ownsRow b0 e k v n xs := h
theorem _root_.Go.World.ownsRow.drewN2 {w : World} {b0 n k : Nat} {e : TypeId} {v : Value} {xs : List Value} (h : w.ownsRow b0 e k v n xs) (q : Nat) : (w.drewN q).ownsRow b0 e k v n xs := h
/-- A route of another prefix. -/
def notP (pn pl : Int) (r : Rt) : Bool := !(decide (r.1 = pn) && decide (r.2.1 = pl))

set_option maxRecDepth 100000 in
set_option maxHeartbeats 4000000 in
theorem scopy_any (lo hi n : Nat) (v : Value) (L : List Rt) (w : World) (hL : L.length = n) (hr : Row 3 w lo hi v n (flat L)) (hh : hi ≤ w.heap.size) :
    Calls Try.prog 53 #[.agg #[v]] w (TabPost L w) := by
  obtain ⟨ad, cp, rfl, hn, hc⟩ := hr.opened
  have HC := Lib.hid hc
  have HL := Lib.hid hL
  obtain ⟨iI, hi0, hz0, hz1, hz2⟩ := info_parts Try.info43r
  have I := Lib.hid (And.intro hi0 (And.intro hz0 (And.intro hz1 hz2)))
  clear hi0 hz0 hz1 hz2
  clear hr hc hL
  go_enter Try.func53, Try.ntmps53
  go_wp2_with fail
  have x0 : (((w.alloc (.cells #[.slice ad n cp] 30)).alloc (.cells #[.slice none 0 0] 30)).alloc (.cells #[.slice none 0 0] 30)).cell? ⟨w.heap.size, 0, none⟩ = some (.slice ad n cp) := by simp [go_sem]
  have y0 : (((w.alloc (.cells #[.slice ad n cp] 30)).alloc (.cells #[.slice none 0 0] 30)).alloc (.cells #[.slice none 0 0] 30)).cell? ⟨w.heap.size + 1, 0, none⟩ = some (.slice none 0 0) := by simp [go_sem]
  have y1 : (((w.alloc (.cells #[.slice ad n cp] 30)).alloc (.cells #[.slice none 0 0] 30)).alloc (.cells #[.slice none 0 0] 30)).frozen? ⟨w.heap.size + 1, 0, none⟩ = false := by simp [go_sem]
  have HO : Hid (OutT (((w.alloc (.cells #[.slice ad n cp] 30)).alloc (.cells #[.slice none 0 0] 30)).alloc (.cells #[.slice none 0 0] 30)) (((w.alloc (.cells #[.slice ad n cp] 30)).alloc (.cells #[.slice none 0 0] 30)).alloc (.cells #[.slice none 0 0] 30)) (w.heap.size + 1 + 1) []) := OutT.start (by simp) (by simp [go_sem]) (by rw [new_at (by simp)]; rfl)
  have HB : Hid (Below w.heap.size w (((w.alloc (.cells #[.slice ad n cp] 30)).alloc (.cells #[.slice none 0 0] 30)).alloc (.cells #[.slice none 0 0] 30))) := by show Below _ _ _; go_grown
  have hs3 : (((w.alloc (.cells #[.slice ad n cp] 30)).alloc (.cells #[.slice none 0 0] 30)).alloc (.cells #[.slice none 0 0] 30)).heap.size = w.heap.size + 1 + 1 + 1 := by simp
  generalize ((w.alloc (.cells #[.slice ad n cp] 30)).alloc (.cells #[.slice none 0 0] 30)).alloc (.cells #[.slice none 0 0] 30) = w3 at *
  obtain ⟨X, hX⟩ : ∃ X, X = w.heap.size + 1 + 1 := ⟨_, rfl⟩
  obtain ⟨R, hR⟩ : ∃ R, R = w.heap.size + 1 := ⟨_, rfl⟩
  rw [← hX] at HO ⊢
  rw [← hR] at y0 y1 ⊢
  have n1 : w.heap.size < R := by omega
  have n2 : R < X := by omega
  have n3 : R ≠ X := by omega
  have n4 : X < w3.heap.size := by omega
  have n5 : w.heap.size < X := by omega
  clear hX hR hs3
  go_loopw [4] (fun i wr => ∃ k : Nat, k ≤ n ∧ i = .int .i64 (k : Int) ∧ Hid (OutT w3 wr X (L.take k))) (fun i _ => n - (intOf i).toNat)
  case atStart => exact ⟨0, Nat.zero_le _, rfl, HO⟩
  case round =>
    obtain ⟨k, hk, rfl, hR⟩ := hrel
    have hBw : Below w.heap.size w wr := HB.out.trans (hR.out.1.mono (by omega))
    have k0 : wr.cell? ⟨w.heap.size, 0, none⟩ = some (.slice ad n cp) := by rw [hR.out.1.cell (p := ⟨w.heap.size, 0, none⟩) n5]; exact x0
    have hXl := hR.out.size
    have hsz := hBw.size
    by_cases hlt : k < n
    case neg =>
      have hge : ¬ ((k : Int) < (n : Int)) := by omega
      obtain rfl : k = n := by omega
      have ht : L.take k = L := List.take_of_length_le (by rw [HL.out]; exact Nat.le_refl _)
      have HBw := Lib.hid hBw
      rw [ht] at hR
      have hrl : L.length ≤ 1100000 := by have := HL.out; omega
      obtain ⟨ra, rc, hrv, hrow⟩ := hR.out.take hrl
      have b0 : wr.cell? ⟨R, 0, none⟩ = some (.slice none 0 0) := by rw [hR.out.1.cell (p := ⟨R, 0, none⟩) n2]; exact y0
      have b1 : wr.frozen? ⟨R, 0, none⟩ = false := by rw [hR.out.1.frozen (p := ⟨R, 0, none⟩) n2]; exact y1
      have hrow2 := (hrow.setCell (p := ⟨R, 0, none⟩) (.inl (by show R < X + 1; omega)) (.slice ra L.length rc)).wide (lo' := w.heap.size) (hi' := (wr.setCell ⟨R, 0, none⟩ (.slice ra L.length rc)).heap.size) (by omega) (by simp [World.setCell])
      have r0 : (wr.setCell ⟨R, 0, none⟩ (.slice ra L.length rc)).cell? ⟨R, 0, none⟩ = some (.slice ra L.length rc) := World.cell?_setCell_same' _ _ _ (by rw [b0]; rfl)
      have Hrow := Lib.hid hrow2
      obtain ⟨ln, hln⟩ : ∃ ln, ln = L.length := ⟨_, rfl⟩
      rw [← hln] at hrv r0 Hrow
      have Hln := Lib.hid hln
      clear ht hBw hrow hrow2 hR hrl hln
      go_wp2_with fail
      refine bodyPost_ret (v := .agg #[.slice ra ln rc]) (by simp [results, Try.results53, go_sem, r0]) rfl ⟨_, rfl, ?_, ?_⟩
      · rw [← Hln.out]; exact Hrow.out
      · exact HBw.out.setCell (by show _ ≤ R; omega) _
    case pos =>
    obtain ⟨g, rfl, hg, hcell⟩ := HC.out (by omega)
    clear HC
    obtain ⟨a, b, c, hrk⟩ := at_of_lt (L := L) (i := k) (by rw [HL.out]; exact hlt)
    obtain ⟨r0, r1, r2⟩ := flat_at L k _ hrk
    have z0 : wr.cell? ⟨g, k * 3, none⟩ = some (.int .i64 a) := by rw [hBw.cell (p := ⟨g, k * 3, none⟩) (by show g < _; omega)]; exact hcell _ _ r0
    have z1 : wr.cell? ⟨g, k * 3 + 1, none⟩ = some (.int .i64 b) := by rw [hBw.cell (p := ⟨g, k * 3 + 1, none⟩) (by show g < _; omega)]; exact hcell _ _ r1
    have z2 : wr.cell? ⟨g, k * 3 + 2, none⟩ = some (.int .i64 c) := by rw [hBw.cell (p := ⟨g, k * 3 + 2, none⟩) (by show g < _; omega)]; exact hcell _ _ r2
    have q0 : (0 : Int) ≤ (k : Int) := by omega
    have q1 : (k : Int) < (n : Int) := by omega
    have hgl : g < wr.heap.size := by omega
    have hwl : w.heap.size < wr.heap.size := by omega
    have Hrk := Lib.hid hrk
    have hN := take_snoc3 hrk
    obtain ⟨Q, hQ⟩ : ∃ Q, Q = (L.take k) := ⟨_, rfl⟩
    have hll : (L.take k).length ≤ k := by rw [List.length_take]; exact Nat.min_le_left _ _
    rw [← hQ] at hR hN hll
    have HN := Lib.hid hN
    clear hQ hN r0 r1 r2 hrk hcell hBw
    obtain ⟨rv, hrv, hown⟩ := hR.out.2.2.2
    obtain ⟨ra, rc, hra⟩ := own_slice hown
    subst hra
    have hfX := hR.out.2.2.1
    have Hw := Lib.hid hown
    obtain ⟨m, hm⟩ : ∃ m, m = Q.length := ⟨_, rfl⟩
    rw [← hm] at hrv hll Hw
    have Hm := Lib.hid hm
    have hgq : g < wr.heap.size := by omega
    have hwq2 : w.heap.size < wr.heap.size := by omega
    have hXq : X < wr.heap.size := by omega
    clear hm hown
    go_wp2_with fail
    go_region_law ((refine step_append_lies _ rfl _ _ 28 rfl (X + 1) 43 iI (.agg #[.int .i64 0, .int .i64 0, .int .i64 0]) 3 24 Try.underlying28 I.out.1 I.out.2.1 I.out.2.2.1 I.out.2.2.2 rfl (by decide) _ m (ints (flat Q)) rfl (Hw.out.drew.alloc _) ⟨wr.heap.size, 0, none⟩ 1 1 (ints [a, b, c]) rfl rfl (fun j u hj => cells_new _ [a, b, c] 43 rfl j u hj) (ints_one _) (by decide) (by unfold maxLen; omega) (by omega) (by simp; omega) _ rfl ?_; intro g4 cap4 w4 hown4 hgrow4 hat4 hlt4; obtain ⟨⟨uu, hc4⟩, hf4, hF4⟩ := OutT.app hR.out.drew (by rw [← Hm.out]; exact Hw.out.drew) hgrow4 (show m + 1 = Q.length + 1 by rw [Hm.out]) hown4; have HF := Lib.hid hF4; clear hF4 hown4 hgrow4 hat4 hlt4))
    all_goals
      go_wp2_with fail
      go_roundw
      case rel => exact ⟨k + 1, by omega, by go_num, by rw [HN.out]; exact HF.out⟩
      case measure => simp [intOf]; omega

set_option maxRecDepth 100000 in
set_option maxHeartbeats 4000000 in
theorem sless_any (lo hi n : Nat) (v : Value) (L : List Rt) (pn pl : Int) (w : World) (hL : L.length = n) (hr : Row 3 w lo hi v n (flat L)) (hh : hi ≤ w.heap.size) :
    Calls Try.prog 52 #[.agg #[v], .agg #[.int .i64 pn, .int .i64 pl]] w (TabPost (L.filter (notP pn pl)) w) := by
  obtain ⟨ad, cp, rfl, hn, hc⟩ := hr.opened
  have HC := Lib.hid hc
  have HL := Lib.hid hL
  obtain ⟨iI, hi0, hz0, hz1, hz2⟩ := info_parts Try.info43r
  have I := Lib.hid (And.intro hi0 (And.intro hz0 (And.intro hz1 hz2)))
  clear hi0 hz0 hz1 hz2
  clear hr hc hL
  go_enter Try.func52, Try.ntmps52
  go_wp2_with fail
  have x0 : ((((w.alloc (.cells #[.slice ad n cp] 30)).alloc (.cells #[.int .i64 pn, .int .i64 pl] 34)).alloc (.cells #[.slice none 0 0] 30)).alloc (.cells #[.slice none 0 0] 30)).cell? ⟨w.heap.size, 0, none⟩ = some (.slice ad n cp) := by simp [go_sem]
  have x1 : ((((w.alloc (.cells #[.slice ad n cp] 30)).alloc (.cells #[.int .i64 pn, .int .i64 pl] 34)).alloc (.cells #[.slice none 0 0] 30)).alloc (.cells #[.slice none 0 0] 30)).cell? ⟨w.heap.size + 1, 0, none⟩ = some (.int .i64 pn) := by simp [go_sem]
  have x2 : ((((w.alloc (.cells #[.slice ad n cp] 30)).alloc (.cells #[.int .i64 pn, .int .i64 pl] 34)).alloc (.cells #[.slice none 0 0] 30)).alloc (.cells #[.slice none 0 0] 30)).cell? ⟨w.heap.size + 1, 1, none⟩ = some (.int .i64 pl) := by simp [go_sem]
  have y0 : ((((w.alloc (.cells #[.slice ad n cp] 30)).alloc (.cells #[.int .i64 pn, .int .i64 pl] 34)).alloc (.cells #[.slice none 0 0] 30)).alloc (.cells #[.slice none 0 0] 30)).cell? ⟨w.heap.size + 1 + 1, 0, none⟩ = some (.slice none 0 0) := by simp [go_sem]
  have y1 : ((((w.alloc (.cells #[.slice ad n cp] 30)).alloc (.cells #[.int .i64 pn, .int .i64 pl] 34)).alloc (.cells #[.slice none 0 0] 30)).alloc (.cells #[.slice none 0 0] 30)).frozen? ⟨w.heap.size + 1 + 1, 0, none⟩ = false := by simp [go_sem]
  have HO : Hid (OutT ((((w.alloc (.cells #[.slice ad n cp] 30)).alloc (.cells #[.int .i64 pn, .int .i64 pl] 34)).alloc (.cells #[.slice none 0 0] 30)).alloc (.cells #[.slice none 0 0] 30)) ((((w.alloc (.cells #[.slice ad n cp] 30)).alloc (.cells #[.int .i64 pn, .int .i64 pl] 34)).alloc (.cells #[.slice none 0 0] 30)).alloc (.cells #[.slice none 0 0] 30)) (w.heap.size + 1 + 1 + 1) []) := OutT.start (by simp) (by simp [go_sem]) (by rw [new_at (by simp)]; rfl)
  have HB : Hid (Below w.heap.size w ((((w.alloc (.cells #[.slice ad n cp] 30)).alloc (.cells #[.int .i64 pn, .int .i64 pl] 34)).alloc (.cells #[.slice none 0 0] 30)).alloc (.cells #[.slice none 0 0] 30))) := by show Below _ _ _; go_grown
  have hs3 : ((((w.alloc (.cells #[.slice ad n cp] 30)).alloc (.cells #[.int .i64 pn, .int .i64 pl] 34)).alloc (.cells #[.slice none 0 0] 30)).alloc (.cells #[.slice none 0 0] 30)).heap.size = w.heap.size + 1 + 1 + 1 + 1 := by simp
  generalize (((w.alloc (.cells #[.slice ad n cp] 30)).alloc (.cells #[.int .i64 pn, .int .i64 pl] 34)).alloc (.cells #[.slice none 0 0] 30)).alloc (.cells #[.slice none 0 0] 30) = w3 at *
  obtain ⟨X, hX⟩ : ∃ X, X = w.heap.size + 1 + 1 + 1 := ⟨_, rfl⟩
  obtain ⟨R, hR⟩ : ∃ R, R = w.heap.size + 1 + 1 := ⟨_, rfl⟩
  rw [← hX] at HO ⊢
  rw [← hR] at y0 y1 ⊢
  have n1 : w.heap.size < R := by omega
  have n2 : R < X := by omega
  have n3 : R ≠ X := by omega
  have n4 : X < w3.heap.size := by omega
  have n5 : w.heap.size < X := by omega
  obtain ⟨Pb, hP⟩ : ∃ P, P = w.heap.size + 1 := ⟨_, rfl⟩
  rw [← hP] at x1 x2 ⊢
  have n6 : Pb < X := by omega
  clear hX hR hs3 hP
  go_loopw [6] (fun i wr => ∃ k : Nat, k ≤ n ∧ i = .int .i64 (k : Int) ∧ Hid (OutT w3 wr X ((L.take k).filter (notP pn pl)))) (fun i _ => n - (intOf i).toNat)
  case atStart => exact ⟨0, Nat.zero_le _, rfl, HO⟩
  case round =>
    obtain ⟨k, hk, rfl, hR⟩ := hrel
    have hBw : Below w.heap.size w wr := HB.out.trans (hR.out.1.mono (by omega))
    have k0 : wr.cell? ⟨w.heap.size, 0, none⟩ = some (.slice ad n cp) := by rw [hR.out.1.cell (p := ⟨w.heap.size, 0, none⟩) n5]; exact x0
    have k1 : wr.cell? ⟨Pb, 0, none⟩ = some (.int .i64 pn) := by rw [hR.out.1.cell (p := ⟨Pb, 0, none⟩) n6]; exact x1
    have k2 : wr.cell? ⟨Pb, 1, none⟩ = some (.int .i64 pl) := by rw [hR.out.1.cell (p := ⟨Pb, 1, none⟩) n6]; exact x2
    have hXl := hR.out.size
    have hsz := hBw.size
    by_cases hlt : k < n
    case neg =>
      have hge : ¬ ((k : Int) < (n : Int)) := by omega
      obtain rfl : k = n := by omega
      have ht : L.take k = L := List.take_of_length_le (by rw [HL.out]; exact Nat.le_refl _)
      have HBw := Lib.hid hBw
      rw [ht] at hR
      have hrl : (L.filter (notP pn pl)).length ≤ 1100000 := by have := List.length_filter_le (notP pn pl) L; have := HL.out; omega
      obtain ⟨ra, rc, hrv, hrow⟩ := hR.out.take hrl
      have b0 : wr.cell? ⟨R, 0, none⟩ = some (.slice none 0 0) := by rw [hR.out.1.cell (p := ⟨R, 0, none⟩) n2]; exact y0
      have b1 : wr.frozen? ⟨R, 0, none⟩ = false := by rw [hR.out.1.frozen (p := ⟨R, 0, none⟩) n2]; exact y1
      have hrow2 := (hrow.setCell (p := ⟨R, 0, none⟩) (.inl (by show R < X + 1; omega)) (.slice ra (L.filter (notP pn pl)).length rc)).wide (lo' := w.heap.size) (hi' := (wr.setCell ⟨R, 0, none⟩ (.slice ra (L.filter (notP pn pl)).length rc)).heap.size) (by omega) (by simp [World.setCell])
      have r0 : (wr.setCell ⟨R, 0, none⟩ (.slice ra (L.filter (notP pn pl)).length rc)).cell? ⟨R, 0, none⟩ = some (.slice ra (L.filter (notP pn pl)).length rc) := World.cell?_setCell_same' _ _ _ (by rw [b0]; rfl)
      have Hrow := Lib.hid hrow2
      obtain ⟨ln, hln⟩ : ∃ ln, ln = (L.filter (notP pn pl)).length := ⟨_, rfl⟩
      rw [← hln] at hrv r0 Hrow
      have Hln := Lib.hid hln
      clear ht hBw hrow hrow2 hR hrl hln
      go_wp2_with fail
      refine bodyPost_ret (v := .agg #[.slice ra ln rc]) (by simp [results, Try.results52, go_sem, r0]) rfl ⟨_, rfl, ?_, ?_⟩
      · rw [← Hln.out]; exact Hrow.out
      · exact HBw.out.setCell (by show _ ≤ R; omega) _
    case pos =>
    obtain ⟨g, rfl, hg, hcell⟩ := HC.out (by omega)
    clear HC
    obtain ⟨a, b, c, hrk⟩ := at_of_lt (L := L) (i := k) (by rw [HL.out]; exact hlt)
    obtain ⟨r0, r1, r2⟩ := flat_at L k _ hrk
    have z0 : wr.cell? ⟨g, k * 3, none⟩ = some (.int .i64 a) := by rw [hBw.cell (p := ⟨g, k * 3, none⟩) (by show g < _; omega)]; exact hcell _ _ r0
    have z1 : wr.cell? ⟨g, k * 3 + 1, none⟩ = some (.int .i64 b) := by rw [hBw.cell (p := ⟨g, k * 3 + 1, none⟩) (by show g < _; omega)]; exact hcell _ _ r1
    have z2 : wr.cell? ⟨g, k * 3 + 2, none⟩ = some (.int .i64 c) := by rw [hBw.cell (p := ⟨g, k * 3 + 2, none⟩) (by show g < _; omega)]; exact hcell _ _ r2
    have q0 : (0 : Int) ≤ (k : Int) := by omega
    have q1 : (k : Int) < (n : Int) := by omega
    have hgl : g < wr.heap.size := by omega
    have hwl : w.heap.size < wr.heap.size := by omega
    have Hrk := Lib.hid hrk
    by_cases hp : a = pn ∧ b = pl
    case pos =>
      obtain ⟨rfl, rfl⟩ := hp
      have hN : (L.take (k + 1)).filter (notP a b) = (L.take k).filter (notP a b) := by rw [take_snoc3 hrk, List.filter_append]; simp [notP]
      have HN := Lib.hid hN
      have HF : ∀ q, Hid (OutT w3 (wr.drewN q) X ((L.take (k + 1)).filter (notP a b))) := fun q => by rw [HN.out]; exact Lib.hid (hR.out.drewN q)
      clear r0 r1 r2 hrk hcell hBw hN hR
      go_wp2_with fail
      go_quiet (fail)
      go_wp2_with fail
      go_roundw
      case rel => exact ⟨k + 1, by omega, by go_num, HF _⟩
      case measure => simp [intOf]; omega
    case neg =>
      have hN : (L.take (k + 1)).filter (notP pn pl) = (L.take k).filter (notP pn pl) ++ [(a, b, c)] := by
        rw [take_snoc3 hrk, List.filter_append]
        have : notP pn pl (a, b, c) = true := by unfold notP; rw [Bool.not_eq_true', Bool.and_eq_false_iff, decide_eq_false_iff_not, decide_eq_false_iff_not]; exact Classical.not_and_iff_not_or_not.1 hp
        simp [this]
      have hpq : ((a == pn) && (b == pl)) = false := by
        rw [Bool.and_eq_false_iff]
        simp only [beq_eq_false_iff_ne, ne_eq]
        rcases Classical.em (a = pn) with h | h
        · exact .inr (fun h2 => hp ⟨h, h2⟩)
        · exact .inl h
      have HP := Lib.hid hp
      clear hp
      by_cases h1 : a = pn
      case pos =>
        have h2 : ¬ b = pl := fun h => HP.out ⟨h1, h⟩
        have e1 : (a == pn) = true := by simp [h1]
        have e2 : (b == pl) = false := by simp [h2]
        clear h1
        obtain ⟨Q, hQ⟩ : ∃ Q, Q = ((L.take k).filter (notP pn pl)) := ⟨_, rfl⟩
        have hll : ((L.take k).filter (notP pn pl)).length ≤ k := by exact Nat.le_trans (List.length_filter_le _ _) (by rw [List.length_take]; exact Nat.min_le_left _ _)
        rw [← hQ] at hR hN hll
        have HN := Lib.hid hN
        clear hQ hN r0 r1 r2 hrk hcell hBw
        go_wp2_with fail
        go_quiet (fail)
        obtain ⟨wq, hwq⟩ : ∃ wq, wq = wr.drewN nq := ⟨_, rfl⟩
        have HRq : Hid (OutT w3 wq X Q) := by rw [hwq]; exact Lib.hid (hR.out.drewN nq)
        have hqs : wr.heap.size ≤ wq.heap.size := by rw [hwq]; exact Nat.le_refl _
        have jk0 : wq.cell? ⟨w.heap.size, 0, none⟩ = some (.slice (some ⟨g, 0, none⟩) n cp) := by rw [hwq]; exact k0
        have jz0 : wq.cell? ⟨g, k * 3, none⟩ = some (.int .i64 a) := by rw [hwq]; exact z0
        have jz1 : wq.cell? ⟨g, k * 3 + 1, none⟩ = some (.int .i64 b) := by rw [hwq]; exact z1
        have jz2 : wq.cell? ⟨g, k * 3 + 2, none⟩ = some (.int .i64 c) := by rw [hwq]; exact z2
        rw [← hwq]
        clear hwq hR k0 k1 k2 z0 z1 z2
        obtain ⟨rv, hrv, hown⟩ := HRq.out.2.2.2
        obtain ⟨ra, rc, hra⟩ := own_slice hown
        subst hra
        have hfX := HRq.out.2.2.1
        have Hw := Lib.hid hown
        obtain ⟨m, hm⟩ : ∃ m, m = Q.length := ⟨_, rfl⟩
        rw [← hm] at hrv hll Hw
        have Hm := Lib.hid hm
        have hgq : g < wq.heap.size := by omega
        have hwq2 : w.heap.size < wq.heap.size := by omega
        have hXq : X < wq.heap.size := by omega
        clear hm hown
        go_wp2_with fail
        go_region_law ((refine step_append_lies _ rfl _ _ 28 rfl (X + 1) 43 iI (.agg #[.int .i64 0, .int .i64 0, .int .i64 0]) 3 24 Try.underlying28 I.out.1 I.out.2.1 I.out.2.2.1 I.out.2.2.2 rfl (by decide) _ m (ints (flat Q)) rfl (Hw.out.drew.alloc _) ⟨wq.heap.size, 0, none⟩ 1 1 (ints [a, b, c]) rfl rfl (fun j u hj => cells_new _ [a, b, c] 43 rfl j u hj) (ints_one _) (by decide) (by unfold maxLen; omega) (by omega) (by simp; omega) _ rfl ?_; intro g4 cap4 w4 hown4 hgrow4 hat4 hlt4; obtain ⟨⟨uu, hc4⟩, hf4, hF4⟩ := OutT.app HRq.out.drew (by rw [← Hm.out]; exact Hw.out.drew) hgrow4 (show m + 1 = Q.length + 1 by rw [Hm.out]) hown4; have HF := Lib.hid hF4; clear hF4 hown4 hgrow4 hat4 hlt4))
        all_goals
          go_wp2_with fail
          go_roundw
          case rel => exact ⟨k + 1, by omega, by go_num, by rw [HN.out]; exact HF.out⟩
          case measure => simp [intOf]; omega
      case neg =>
        have e1 : (a == pn) = false := by simp [h1]
        obtain ⟨Q, hQ⟩ : ∃ Q, Q = ((L.take k).filter (notP pn pl)) := ⟨_, rfl⟩
        have hll : ((L.take k).filter (notP pn pl)).length ≤ k := by exact Nat.le_trans (List.length_filter_le _ _) (by rw [List.length_take]; exact Nat.min_le_left _ _)
        rw [← hQ] at hR hN hll
        have HN := Lib.hid hN
        clear hQ hN r0 r1 r2 hrk hcell hBw
        go_wp2_with fail
        go_quiet (fail)
        obtain ⟨wq, hwq⟩ : ∃ wq, wq = wr.drewN nq := ⟨_, rfl⟩
        have HRq : Hid (OutT w3 wq X Q) := by rw [hwq]; exact Lib.hid (hR.out.drewN nq)
        have hqs : wr.heap.size ≤ wq.heap.size := by rw [hwq]; exact Nat.le_refl _
        have jk0 : wq.cell? ⟨w.heap.size, 0, none⟩ = some (.slice (some ⟨g, 0, none⟩) n cp) := by rw [hwq]; exact k0
        have jz0 : wq.cell? ⟨g, k * 3, none⟩ = some (.int .i64 a) := by rw [hwq]; exact z0
        have jz1 : wq.cell? ⟨g, k * 3 + 1, none⟩ = some (.int .i64 b) := by rw [hwq]; exact z1
        have jz2 : wq.cell? ⟨g, k * 3 + 2, none⟩ = some (.int .i64 c) := by rw [hwq]; exact z2
        rw [← hwq]
        clear hwq hR k0 k1 k2 z0 z1 z2
        obtain ⟨rv, hrv, hown⟩ := HRq.out.2.2.2
        obtain ⟨ra, rc, hra⟩ := own_slice hown
        subst hra
        have hfX := HRq.out.2.2.1
        have Hw := Lib.hid hown
        obtain ⟨m, hm⟩ : ∃ m, m = Q.length := ⟨_, rfl⟩
        rw [← hm] at hrv hll Hw
        have Hm := Lib.hid hm
        have hgq : g < wq.heap.size := by omega
        have hwq2 : w.heap.size < wq.heap.size := by omega
        have hXq : X < wq.heap.size := by omega
        clear hm hown
        go_wp2_with fail
        go_region_law ((refine step_append_lies _ rfl _ _ 28 rfl (X + 1) 43 iI (.agg #[.int .i64 0, .int .i64 0, .int .i64 0]) 3 24 Try.underlying28 I.out.1 I.out.2.1 I.out.2.2.1 I.out.2.2.2 rfl (by decide) _ m (ints (flat Q)) rfl (Hw.out.drew.alloc _) ⟨wq.heap.size, 0, none⟩ 1 1 (ints [a, b, c]) rfl rfl (fun j u hj => cells_new _ [a, b, c] 43 rfl j u hj) (ints_one _) (by decide) (by unfold maxLen; omega) (by omega) (by simp; omega) _ rfl ?_; intro g4 cap4 w4 hown4 hgrow4 hat4 hlt4; obtain ⟨⟨uu, hc4⟩, hf4, hF4⟩ := OutT.app HRq.out.drew (by rw [← Hm.out]; exact Hw.out.drew) hgrow4 (show m + 1 = Q.length + 1 by rw [Hm.out]) hown4; have HF := Lib.hid hF4; clear hF4 hown4 hgrow4 hat4 hlt4))
        all_goals
          go_wp2_with fail
          go_roundw
          case rel => exact ⟨k + 1, by omega, by go_num, by rw [HN.out]; exact HF.out⟩
          case measure => simp [intOf]; omega

end Go.Proofs.Ytgdnfglhlpnooaa
