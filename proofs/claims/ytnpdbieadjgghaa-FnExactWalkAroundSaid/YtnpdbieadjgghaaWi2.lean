/- WalkAround of the program. -/
import Derived.Test.YtnpdbieadjgghaaW24
import Derived.Test.YtnpdbieadjgghaaSb2
import Derived.Test.YtnpdbieadjgghaaCw
import Derived.Deep.AppendLies
import Derived.Test.YtnpdbieadjgghaaIb
import Derived.Test.YtnpdbieadjgghaaGd
import Derived.Test.YtnpdbieadjgghaaIc
import Derived.Test.YtnpdbieadjgghaaMo
namespace Go.Proofs.Ytnpdbieadjgghaa
open Go.RowKit

/-- What has been put together of two parts. -/
def CatRelL (w wr : World) (A : List Int) (na nb : Nat) (Y : List Int) (k : Nat) (v : Value) : Prop :=
  (k = 0 → wr.ownsRow w.heap.size 3 1 v 0 [] ∧ Below w.heap.size w wr) ∧ (k = 1 → wr.ownsRow w.heap.size 3 1 v na (ints A) ∧ Below w.heap.size w wr) ∧ (k = 2 → ∃ g cap, v = .slice (some ⟨g, 0, none⟩) (na + nb) cap ∧ wr.ownsRow w.heap.size 3 1 (.slice (some ⟨g, 0, none⟩) (na + nb) cap) (na + nb) (ints (A ++ Y)) ∧ Below w.heap.size w wr)
def CatPostL (w : World) (A : List Int) (na nb : Nat) (Y : List Int) (e : Ending) (w' : World) : Prop := ∃ g cap, e = .returned (.slice (some ⟨g, 0, none⟩) (na + nb) cap) ∧ w'.ownsRow w.heap.size 3 1 (.slice (some ⟨g, 0, none⟩) (na + nb) cap) (na + nb) (ints (A ++ Y)) ∧ Below w.heap.size w w'

set_option maxHeartbeats 4000000 in
set_option maxRecDepth 100000 in
theorem concatL_any (B ga ca gb cb na nb : Nat) (A Y : List Int) (w : World) (hna0 : 0 < na) (hna : na ≤ 1000) (hnb0 : 0 < nb) (hnb : nb ≤ 1000) (hA : A.length = na) (hY : Y.length = nb) (hB : B < w.heap.size) (hga : ga < w.heap.size) (hgb : gb < w.heap.size)
    (c0 : w.cell? ⟨B, 0, none⟩ = some (.slice (some ⟨ga, 0, none⟩) na ca)) (c1 : w.cell? ⟨B, 1, none⟩ = some (.slice (some ⟨gb, 0, none⟩) nb cb))
    (ha : ∀ q z, A[q]? = some z → w.cell? ⟨ga, q, none⟩ = some (.int .i64 z)) (hb : ∀ q z, Y[q]? = some z → w.cell? ⟨gb, q, none⟩ = some (.int .i64 z)) :
    Calls Try.prog 68 #[.slice (some ⟨B, 0, none⟩) 2 2] w (CatPostL w A na nb Y) := by
  have HA := Lib.hid hA
  have Hga := Lib.hid ha
  have Hgb := Lib.hid hb
  have HY := Lib.hid hY
  obtain ⟨i3, hi, hz0, hz1, hz2⟩ := info_parts Try.info3
  have I := Lib.hid (And.intro hi (And.intro hz0 (And.intro hz1 hz2)))
  clear hi hz0 hz1 hz2 hA hY ha hb
  go_enter Try.func68, Try.ntmps68
  go_wp2
  go_loop [3, 11] (fun s i => ∃ k : Nat, k ≤ 2 ∧ i = .int .i64 (k : Int) ∧ ((k = 0 ∧ s = .int .i64 0) ∨ (k = 1 ∧ s = .int .i64 (na : Int)) ∨ (k = 2 ∧ s = .int .i64 ((na : Int) + (nb : Int))))) (fun _ i => 2 - (intOf i).toNat)
  case atStart => exact ⟨0, by omega, rfl, .inl ⟨rfl, rfl⟩⟩
  case round =>
    obtain ⟨k, hk, rfl, hs⟩ := hrel
    have q3 : decide ((na : Int) < 0) = false := decide_eq_false (by omega)
    have q4 : decide ((na : Int) + (nb : Int) < 0) = false := decide_eq_false (by omega)
    rcases hs with ⟨rfl, rfl⟩ | ⟨rfl, rfl⟩ | ⟨rfl, rfl⟩
    · go_wp2
      go_round
      case rel => exact ⟨1, by omega, by go_num, .inr (.inl ⟨rfl, by go_num⟩)⟩
      case measure => simp [intOf]
    · go_wp2
      go_round
      case rel => exact ⟨2, by omega, by go_num, .inr (.inr ⟨rfl, by go_num⟩)⟩
      case measure => simp [intOf]
    · have hgr := grow_any (na + nb) w (by omega) (by omega)
      rw [show ((na + nb : Nat) : Int) = (na : Int) + (nb : Int) by omega] at hgr
      have HGr := Lib.hid hgr
      clear hgr
      go_wp2_with fail
      go_at_call 100
      refine (HGr.out).mono ?_
      rintro e w1 ⟨G, rfl, hown, hbw, hsz⟩
      have HC0 : Hid (CatRelL w w1 A na nb Y 0 (.slice (some ⟨w.heap.size, 0, none⟩) 0 G)) := ⟨fun _ => ⟨hown, hbw⟩, fun h => absurd h (by decide), fun h => absurd h (by decide)⟩
      clear hown hbw hsz HGr
      go_wp2_with fail
      go_loopw [6, 27] (fun v i wr => ∃ k : Nat, k ≤ 2 ∧ i = .int .i64 (k : Int) ∧ Hid (CatRelL w wr A na nb Y k v)) (fun _ i _ => 2 - (intOf i).toNat)
      case atStart => exact ⟨0, by omega, rfl, HC0⟩
      case round =>
        obtain ⟨k, hk, rfl, hR⟩ := hrel
        have hk3 : k = 0 ∨ k = 1 ∨ k = 2 := by omega
        rcases hk3 with rfl | rfl | rfl
        · have hO := Lib.hid (hR.out.1 rfl)
          clear hR
          have hown0 := hO.out.1
          have hBw := hO.out.2
          obtain ⟨ua, uc, hu⟩ := own_slice hown0
          subst hu
          have z0 : wr.cell? ⟨B, 0, none⟩ = some (.slice (some ⟨ga, 0, none⟩) na ca) := by rw [hBw.cell (p := ⟨B, 0, none⟩) hB]; exact c0
          have Hw := Lib.hid hown0
          have HBw := Lib.hid hBw
          have HN : Hid (∀ (j : Nat) (u : Value), (ints A)[j]? = some u → wr.cell? ((⟨ga, 0, none⟩ : Addr).add j) = some u) := fun j u hj => by
            obtain ⟨z, hz, rfl⟩ := ints_of hj
            rw [add_none, HBw.out.cell (p := ⟨ga, j, none⟩) hga]
            exact Hga.out j z hz
          clear hown0 hBw hO
          go_wp2_with (at_builtin; refine wpList_append_lies _ rfl _ _ 33 rfl w.heap.size 3 i3 (.int .i64 0) 1 8 Try.underlying33 I.out.1 I.out.2.1 I.out.2.2.1 I.out.2.2.2 rfl (by decide) _ 0 (ints []) rfl Hw.out ⟨ga, 0, none⟩ na ca (ints A) rfl ?c0 ?c1 (ints_one _) ?c2 ?c3 ?c4 ?c5 _ rfl ?_)
          case c0 => rw [ints_len]; simpa using HA.out
          case c1 => exact HN.out
          case c2 => omega
          case c3 => unfold maxLen; omega
          case c4 => omega
          case c5 => exact HBw.out.size
          intro g4 cap4 w4 hown4 hgrow4 hat4 hlt4
          have HO4 : Hid (w4.ownsRow w.heap.size 3 1 (.slice (some ⟨g4, 0, none⟩) (na) cap4) (na) (ints [] ++ ints A) ∧ Below w.heap.size w w4) := ⟨hown4, HBw.out.grown hgrow4 HBw.out.size (fun k hk => (Hw.out.lt k hk).1)⟩
          clear hown4 hgrow4 hat4 hlt4 Hw HBw
          go_wp2_with fail
          go_roundw
          case rel => exact ⟨1, by omega, by go_num, fun h => absurd h (by decide), fun _ => HO4.out, fun h => absurd h (by decide)⟩
          case measure => simp [intOf]
        · have hO := Lib.hid (hR.out.2.1 rfl)
          clear hR
          have hown0 := hO.out.1
          have hBw := hO.out.2
          obtain ⟨ua, uc, hu⟩ := own_slice hown0
          subst hu
          have z0 : wr.cell? ⟨B, 1, none⟩ = some (.slice (some ⟨gb, 0, none⟩) nb cb) := by rw [hBw.cell (p := ⟨B, 1, none⟩) hB]; exact c1
          have Hw := Lib.hid hown0
          have HBw := Lib.hid hBw
          have HN : Hid (∀ (j : Nat) (u : Value), (ints Y)[j]? = some u → wr.cell? ((⟨gb, 0, none⟩ : Addr).add j) = some u) := fun j u hj => by
            obtain ⟨z, hz, rfl⟩ := ints_of hj
            rw [add_none, HBw.out.cell (p := ⟨gb, j, none⟩) hgb]
            exact Hgb.out j z hz
          clear hown0 hBw hO
          go_wp2_with (at_builtin; refine wpList_append_lies _ rfl _ _ 33 rfl w.heap.size 3 i3 (.int .i64 0) 1 8 Try.underlying33 I.out.1 I.out.2.1 I.out.2.2.1 I.out.2.2.2 rfl (by decide) _ na (ints A) rfl Hw.out ⟨gb, 0, none⟩ nb cb (ints Y) rfl ?c0 ?c1 (ints_one _) ?c2 ?c3 ?c4 ?c5 _ rfl ?_)
          case c0 => rw [ints_len]; simpa using HY.out
          case c1 => exact HN.out
          case c2 => omega
          case c3 => unfold maxLen; omega
          case c4 => omega
          case c5 => exact HBw.out.size
          intro g4 cap4 w4 hown4 hgrow4 hat4 hlt4
          have HO4 : Hid (w4.ownsRow w.heap.size 3 1 (.slice (some ⟨g4, 0, none⟩) (na + nb) cap4) (na + nb) (ints A ++ ints Y) ∧ Below w.heap.size w w4) := ⟨hown4, HBw.out.grown hgrow4 HBw.out.size (fun k hk => (Hw.out.lt k hk).1)⟩
          clear hown4 hgrow4 hat4 hlt4 Hw HBw
          go_wp2_with fail
          go_roundw
          case rel => exact ⟨2, by omega, by go_num, fun h => absurd h (by decide), fun h => absurd h (by decide), fun _ => ⟨g4, cap4, rfl, by rw [ints_app]; exact HO4.out.1, HO4.out.2⟩⟩
          case measure => simp [intOf]
        · obtain ⟨g, cap, hv, hO⟩ := hR.out.2.2 rfl
          subst hv
          have HO := Lib.hid hO
          clear hR hO
          go_wp2_with fail
          go_ret
          exact ⟨g, cap, rfl, HO.out.1, HO.out.2⟩

theorem pickS_mem (c : Int → Int) : ∀ (l : List Int) (b : Int × Int), (pickS c l b).1 = b.1 ∨ (pickS c l b).1 ∈ l
  | [], b => .inl rfl
  | x :: l, b => by
    unfold pickS
    rcases pickS_mem c l (if b.1 < 0 ∨ c x < b.2 then (x, c x) else b) with h | h
    · rw [h]
      split
      · exact .inr (List.mem_cons_self ..)
      · exact .inl rfl
    · exact .inr (List.mem_cons_of_mem _ h)
/-- There is no alternate, or the best one leads to d. -/
theorem bst_cases (N : Int) (L : List Ed) (s f d : Int) : bstL N L s f d = -1 ∨ ∃ M s' n' d' : Nat, N = (M : Int) ∧ s = (s' : Int) ∧ d = (d' : Int) ∧ bstL N L s f d = (n' : Int) ∧ gok (M : Int) L = true ∧ s' < M ∧ n' < M ∧ d' < M ∧ dsT (M : Int) L (n' : Int) (d' : Int) ≠ Far := by
  unfold bstL
  rcases pickS_mem (fun n => cst L s n + dsT N L n d) (altL N L s f d) (-1, 0) with h | h
  · exact .inl h
  · right
    generalize (pickS (fun n => cst L s n + dsT N L n d) (altL N L s f d) (-1, 0)).1 = x at *
    unfold altL at h
    split at h
    · rename_i hrep
      obtain ⟨hG, hp, hs1, hf1, hd1, hc⟩ := repB_parts hrep
      have hm := nodesL_mem.1 h
      have h2 := hm.2
      unfold altB at h2
      rw [Bool.and_eq_true] at h2
      have h3 := ((lfB_iff hG hs1 hm.1).1 h2.2).2.2.1
      have e1 : ((N.toNat : Nat) : Int) = N := by omega
      have e2 : ((x.toNat : Nat) : Int) = x := by omega
      have e3 : ((d.toNat : Nat) : Int) = d := by omega
      refine ⟨N.toNat, s.toNat, x.toNat, d.toNat, by omega, by omega, by omega, by omega, by rw [e1]; exact hG, by omega, by omega, by omega, ?_⟩
      rw [e1, e2, e3]
      exact Int.ne_of_lt h3
    · cases h

set_option maxRecDepth 100000 in
set_option maxHeartbeats 4000000 in
theorem swa_no (N : Int) (lo hi n : Nat) (v : Value) (L : List Ed) (s f d : Int) (w : World) (hL : L.length = n) (hr : Row 3 w lo hi v n (flat L)) (hh : hi ≤ w.heap.size) (hb : bstL N L s f d = -1) :
    Calls Try.prog 27 #[.agg #[.int .i64 N, v], .int .i64 s, .int .i64 f, .int .i64 d] w (CwPost 0 [] false w) := by
  obtain ⟨ad, cp, rfl⟩ := hr.slice
  have HG := Lib.hid (Gx.start (N := N) hr hh)
  have HB := Lib.hid hb
  clear hr hb
  go_enter Try.func27, Try.ntmps27
  go_wp2_with fail
  go_at_call 23
  refine (sbest_any N lo hi n _ L s f d _ hL HG.out.row HG.out.hi).mono ?_
  rw [HB.out]
  rintro e v1 ⟨rfl, b1⟩
  have H1 := Lib.hid (HG.out.grow b1)
  clear b1
  go_wp2
  refine bodyPost_ret (v := .tuple #[.slice none 0 0, .bool false]) (by simp [results, Try.results27, go_sem]) rfl ⟨_, rfl, Row.empty _ _ _ _ _ _, H1.out.below⟩

set_option maxRecDepth 100000 in
set_option maxHeartbeats 4000000 in
theorem swa_yes (M s n' d : Nat) (lo hi n : Nat) (v : Value) (L : List Ed) (f : Int) (w : World) (hL : L.length = n) (hr : Row 3 w lo hi v n (flat L)) (hh : hi ≤ w.heap.size) (hG : gok (M : Int) L = true) (hn : n' < M) (hd : d < M) (hb : bstL (M : Int) L (s : Int) f (d : Int) = (n' : Int)) (l : List Int) (hway : WayP (M : Int) L (n' : Int) (d : Int) l) :
    Calls Try.prog 27 #[.agg #[.int .i64 (M : Int), v], .int .i64 (s : Int), .int .i64 f, .int .i64 (d : Int)] w (CwPost (1 + (l.length + 1)) ((s : Int) :: (n' : Int) :: l) true w) := by
  have hlen := hway.len hG ⟨by omega, by omega⟩
  have hM := (gok_parts hG).2.1
  obtain ⟨ad, cp, rfl⟩ := hr.slice
  have HG := Lib.hid (Gx.start (N := (M : Int)) hr hh)
  have HB := Lib.hid hb
  obtain ⟨i3, hi3, hz0, hz1, hz2⟩ := info_parts Try.info3
  have I := Lib.hid (And.intro hi3 (And.intro hz0 (And.intro hz1 hz2)))
  clear hr hb hi3 hz0 hz1 hz2
  go_enter Try.func27, Try.ntmps27
  go_wp2_with fail
  go_at_call 23
  refine (sbest_any (M : Int) lo hi n _ L (s : Int) f (d : Int) _ hL HG.out.row HG.out.hi).mono ?_
  rw [HB.out]
  rintro e v1 ⟨rfl, b1⟩
  have H1 := Lib.hid (HG.out.grow b1)
  have c10 := H1.out.c0
  have c11 := H1.out.c1
  clear b1
  have q0 : decide ((n' : Int) < 0) = false := decide_eq_false (by omega)
  have q1 : ((n' : Int) == -1) = false := beq_eq_false_iff_ne.2 (by omega)
  go_wp2_with fail
  go_at_call 42
  refine (scw_yes M lo hi n _ L n' d _ hL H1.out.row H1.out.hi hG hn hd l hway).mono ?_
  rintro e v2 ⟨rv, rfl, hrow, b2⟩
  obtain ⟨g, c, rfl, hg1, hg2, hcell⟩ := row_cells (by omega) hrow
  have H2 := Lib.hid (H1.out.grow b2)
  have HC := Lib.hid hcell
  have hs1 := H1.out.below.size
  have hs2 := b2.size
  clear b2 hrow hcell c10 c11
  have HO := Lib.hid (OwnI.lit1 v2 (s : Int))
  go_wp2_with (at_builtin; refine wpList_append_lies _ rfl _ _ 33 rfl v2.heap.size 3 i3 (.int .i64 0) 1 8 Try.underlying33 I.out.1 I.out.2.1 I.out.2.2.1 I.out.2.2.2 rfl (by decide) _ 1 (ints [(s : Int)]) rfl HO.out.row ⟨g, 0, none⟩ (l.length + 1) c (ints ((n' : Int) :: l)) rfl ?c0 ?c1 (ints_one _) ?c2 ?c3 ?c4 ?c5 _ rfl ?_)
  case c0 => rw [ints_len]; simp
  case c1 =>
    intro j u hj
    obtain ⟨z, hz, rfl⟩ := ints_of hj
    rw [add_none, old_box (by omega)]
    exact HC.out j z hz
  case c2 => omega
  case c3 => unfold maxLen; omega
  case c4 => omega
  case c5 => simp
  intro g4 cap4 w4 hown4 hgrow4 hat4 hlt4
  rw [← ints_app] at hown4
  have HE : Hid (Row 1 w4 v2.heap.size w4.heap.size (.slice (some ⟨g4, 0, none⟩) (1 + (l.length + 1)) cap4) (1 + (l.length + 1)) ((s : Int) :: (n' : Int) :: l)) := row_of_own hown4 (by omega)
  have HBB : Hid (Below w.heap.size w w4) := (H2.out.below.alloc H2.out.below.size _).grown hgrow4 (by have := H2.out.below.size; simp; omega) (fun k hk => by have := (HO.out.row.lt k hk).1; have := H2.out.below.size; omega)
  clear hown4 hgrow4 hat4 hlt4 HO
  go_wp2
  refine bodyPost_ret (v := .tuple #[.slice (some ⟨g4, 0, none⟩) (1 + (l.length + 1)) cap4, .bool true]) (by simp [results, Try.results27, go_sem]) rfl ⟨_, rfl, HE.out.wide (by omega) (Nat.le_refl _), HBB.out⟩

set_option maxRecDepth 100000 in
set_option maxHeartbeats 4000000 in
theorem iwa_no (N : Int) (lo hi n : Nat) (v : Value) (L : List Ed) (s f d : Int) (w : World) (hL : L.length = n) (hr : Row 3 w lo hi v n (flat L)) (hh : hi ≤ w.heap.size) (hb : bstL N L s f d = -1) :
    Calls Try.prog 28 #[.agg #[.int .i64 N, v], .int .i64 s, .int .i64 f, .int .i64 d] w (CwPost 0 [] false w) := by
  obtain ⟨ad, cp, rfl⟩ := hr.slice
  have HG := Lib.hid (Gx.start (N := N) hr hh)
  have HB := Lib.hid hb
  clear hr hb
  go_enter Try.func28, Try.ntmps28
  go_wp2_with fail
  go_at_call 24
  refine (ibest_any N lo hi n _ L s f d _ hL HG.out.row HG.out.hi).mono ?_
  rw [HB.out]
  rintro e v1 ⟨rfl, b1⟩
  have H1 := Lib.hid (HG.out.grow b1)
  clear b1
  go_wp2
  refine bodyPost_ret (v := .tuple #[.slice none 0 0, .bool false]) (by simp [results, Try.results28, go_sem]) rfl ⟨_, rfl, Row.empty _ _ _ _ _ _, H1.out.below⟩

set_option maxRecDepth 100000 in
set_option maxHeartbeats 4000000 in
theorem iwa_yes (M s n' d : Nat) (lo hi n : Nat) (v : Value) (L : List Ed) (f : Int) (w : World) (hL : L.length = n) (hr : Row 3 w lo hi v n (flat L)) (hh : hi ≤ w.heap.size) (hG : gok (M : Int) L = true) (hn : n' < M) (hd : d < M) (hb : bstL (M : Int) L (s : Int) f (d : Int) = (n' : Int)) (l : List Int) (hway : WayP (M : Int) L (n' : Int) (d : Int) l) :
    Calls Try.prog 28 #[.agg #[.int .i64 (M : Int), v], .int .i64 (s : Int), .int .i64 f, .int .i64 (d : Int)] w (CwPost (1 + (l.length + 1)) ((s : Int) :: (n' : Int) :: l) true w) := by
  have hlen := hway.len hG ⟨by omega, by omega⟩
  have hM := (gok_parts hG).2.1
  obtain ⟨ad, cp, rfl⟩ := hr.slice
  have HG := Lib.hid (Gx.start (N := (M : Int)) hr hh)
  have HB := Lib.hid hb
  obtain ⟨i3, hi3, hz0, hz1, hz2⟩ := info_parts Try.info3
  have I := Lib.hid (And.intro hi3 (And.intro hz0 (And.intro hz1 hz2)))
  clear hr hb hi3 hz0 hz1 hz2
  go_enter Try.func28, Try.ntmps28
  go_wp2_with fail
  go_at_call 24
  refine (ibest_any (M : Int) lo hi n _ L (s : Int) f (d : Int) _ hL HG.out.row HG.out.hi).mono ?_
  rw [HB.out]
  rintro e v1 ⟨rfl, b1⟩
  have H1 := Lib.hid (HG.out.grow b1)
  have c10 := H1.out.c0
  have c11 := H1.out.c1
  clear b1
  have q0 : decide ((n' : Int) < 0) = false := decide_eq_false (by omega)
  have q1 : ((n' : Int) == -1) = false := beq_eq_false_iff_ne.2 (by omega)
  go_wp2_with fail
  go_at_call 43
  refine (icw_yes M lo hi n _ L n' (d : Int) _ hL H1.out.row H1.out.hi hG hn (l.length + 1) ((n' : Int) :: l) true (fun P hP t ht h => ⟨hway.found hG ⟨by omega, by omega⟩ ⟨by omega, by omega⟩ hP ht h, rfl, rfl⟩) (fun P hP h => by obtain ⟨t, ht, h2⟩ := hP.all_dis hG (hway.near hG ⟨by omega, by omega⟩); exact absurd h2 (h t ht))).mono ?_
  rintro e v2 ⟨rv, rfl, hrow, b2⟩
  obtain ⟨g, c, rfl, hg1, hg2, hcell⟩ := row_cells (by omega) hrow
  have H2 := Lib.hid (H1.out.grow b2)
  have HC := Lib.hid hcell
  have hs1 := H1.out.below.size
  have hs2 := b2.size
  clear b2 hrow hcell c10 c11
  have HCC := Lib.hid (concatL_any (v2.heap.size + 1) v2.heap.size 1 g c 1 (l.length + 1) [(s : Int)] ((n' : Int) :: l) ((v2.alloc (.cells #[.int .i64 (s : Int)] 3)).alloc (.cells #[.slice (some ⟨v2.heap.size, 0, none⟩) 1 1, .slice (some ⟨g, 0, none⟩) (l.length + 1) c] 33)) (by omega) (by omega) (by omega) (by omega) rfl (by simp) (by simp) (by simp <;> omega) (by simp <;> omega) (by simp [go_sem]) (by simp [go_sem])
    (fun q z hz => by
      rcases q with _ | q
      · simp at hz; subst hz; simp [go_sem]
      · simp at hz)
    (fun q z hz => by rw [old_box (by simp; omega), old_box (by omega)]; exact HC.out q z hz))
  go_wp2_with fail
  go_at_call 68
  refine HCC.out.mono ?_
  rintro e w4 ⟨g4, cap4, rfl, hown4, b4⟩
  have HE : Hid (Row 1 w4 (v2.heap.size + 1 + 1) w4.heap.size (.slice (some ⟨g4, 0, none⟩) (1 + (l.length + 1)) cap4) (1 + (l.length + 1)) ((s : Int) :: (n' : Int) :: l)) := by
    have h := row_of_own hown4 (by omega)
    simp only [World.size_alloc] at h
    exact h
  have HBB : Hid (Below w.heap.size w w4) := ((H2.out.below.alloc H2.out.below.size _).alloc (by have := H2.out.below.size; simp; omega) _).trans (b4.mono (by have := H2.out.below.size; simp; omega))
  clear hown4 b4 HCC
  go_wp2
  refine bodyPost_ret (v := .tuple #[.slice (some ⟨g4, 0, none⟩) (1 + (l.length + 1)) cap4, .bool true]) (by simp [results, Try.results28, go_sem]) rfl ⟨_, rfl, HE.out.wide (by omega) (Nat.le_refl _), HBB.out⟩

end Go.Proofs.Ytnpdbieadjgghaa
