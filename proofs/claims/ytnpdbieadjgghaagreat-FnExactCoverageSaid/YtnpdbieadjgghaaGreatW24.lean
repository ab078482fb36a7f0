/- slices.Concat of two slices of numbers, the second of one element. -/
import Derived.Test.YtnpdbieadjgghaaGreatW23
import Derived.Deep.AppendLies
namespace Go.Proofs.YtnpdbieadjgghaaGreat
open Go.RowKit


/-- What has been put together of two parts. -/
def CatRel (w wr : World) (A : List Int) (na : Nat) (x : Int) (k : Nat) (v : Value) : Prop :=
  (k = 0 → wr.ownsRow w.heap.size 3 1 v 0 [] ∧ Below w.heap.size w wr) ∧ (k = 1 → wr.ownsRow w.heap.size 3 1 v na (ints A) ∧ Below w.heap.size w wr) ∧ (k = 2 → ∃ g cap, v = .slice (some ⟨g, 0, none⟩) (na + 1) cap ∧ wr.ownsRow w.heap.size 3 1 (.slice (some ⟨g, 0, none⟩) (na + 1) cap) (na + 1) (ints (A ++ [x])) ∧ Below w.heap.size w wr)
def CatPost (w : World) (A : List Int) (na : Nat) (x : Int) (e : Ending) (w' : World) : Prop := ∃ g cap, e = .returned (.slice (some ⟨g, 0, none⟩) (na + 1) cap) ∧ w'.ownsRow w.heap.size 3 1 (.slice (some ⟨g, 0, none⟩) (na + 1) cap) (na + 1) (ints (A ++ [x])) ∧ Below w.heap.size w w'

set_option maxHeartbeats 4000000 in
set_option maxRecDepth 100000 in
theorem concat_any (B ga ca gb cb na : Nat) (A : List Int) (x : Int) (w : World) (hna0 : 0 < na) (hna : na ≤ 1000) (hA : A.length = na) (hB : B < w.heap.size) (hga : ga < w.heap.size) (hgb : gb < w.heap.size)
    (c0 : w.cell? ⟨B, 0, none⟩ = some (.slice (some ⟨ga, 0, none⟩) na ca)) (c1 : w.cell? ⟨B, 1, none⟩ = some (.slice (some ⟨gb, 0, none⟩) 1 cb))
    (ha : ∀ q z, A[q]? = some z → w.cell? ⟨ga, q, none⟩ = some (.int .i64 z)) (hb : w.cell? ⟨gb, 0, none⟩ = some (.int .i64 x)) :
    Calls Tryz.prog 41 #[.slice (some ⟨B, 0, none⟩) 2 2] w (CatPost w A na x) := by
  have HA := Lib.hid hA
  have Hga := Lib.hid ha
  have Hgb : Hid (∀ q z, [x][q]? = some z → w.cell? ⟨gb, q, none⟩ = some (.int .i64 z)) := fun q z hz => by
    rcases q with _ | q
    · simp at hz; subst hz; exact hb
    · simp at hz
  obtain ⟨i3, hi, hz0, hz1, hz2⟩ := info_parts Tryz.info3
  have I := Lib.hid (And.intro hi (And.intro hz0 (And.intro hz1 hz2)))
  clear hi hz0 hz1 hz2 hA ha hb
  go_enter Tryz.func41, Tryz.ntmps41
  go_wp2
  go_loop [3, 11] (fun s i => ∃ k : Nat, k ≤ 2 ∧ i = .int .i64 (k : Int) ∧ ((k = 0 ∧ s = .int .i64 0) ∨ (k = 1 ∧ s = .int .i64 (na : Int)) ∨ (k = 2 ∧ s = .int .i64 ((na : Int) + 1)))) (fun _ i => 2 - (intOf i).toNat)
  case atStart => exact ⟨0, by omega, rfl, .inl ⟨rfl, rfl⟩⟩
  case round =>
    obtain ⟨k, hk, rfl, hs⟩ := hrel
    have q3 : decide ((na : Int) < 0) = false := decide_eq_false (by omega)
    have q4 : decide ((na : Int) + 1 < 0) = false := decide_eq_false (by omega)
    rcases hs with ⟨rfl, rfl⟩ | ⟨rfl, rfl⟩ | ⟨rfl, rfl⟩
    · go_wp2
      go_round
      case rel => exact ⟨1, by omega, by go_num, .inr (.inl ⟨rfl, by go_num⟩)⟩
      case measure => simp [intOf]
    · go_wp2
      go_round
      case rel => exact ⟨2, by omega, by go_num, .inr (.inr ⟨rfl, by go_num⟩)⟩
      case measure => simp [intOf]
    · have hgr := grow_any (na + 1) w (by omega) (by omega)
      rw [show ((na + 1 : Nat) : Int) = (na : Int) + 1 by omega] at hgr
      have HGr := Lib.hid hgr
      clear hgr
      go_wp2_with fail
      go_at_call 75
      refine (HGr.out).mono ?_
      rintro e w1 ⟨G, rfl, hown, hbw, hsz⟩
      have HC0 : Hid (CatRel w w1 A na x 0 (.slice (some ⟨w.heap.size, 0, none⟩) 0 G)) := ⟨fun _ => ⟨hown, hbw⟩, fun h => absurd h (by decide), fun h => absurd h (by decide)⟩
      clear hown hbw hsz HGr
      go_wp2_with fail
      go_loopw [6, 27] (fun v i wr => ∃ k : Nat, k ≤ 2 ∧ i = .int .i64 (k : Int) ∧ Hid (CatRel w wr A na x k v)) (fun _ i _ => 2 - (intOf i).toNat)
      case atStart => exact ⟨0, by omega, rfl, HC0⟩
      case round =>
        obtain ⟨k, hk, rfl, hR⟩ := hrel
        have hk3 : k = 0 ∨ k = 1 ∨ k = 2 := by omega
        rcases hk3 with rfl | rfl | rfl
        · have hO := Lib.hid (hR.out.1 rfl)
          clear hR
          have hown0 := hO.out.1
          have hBw := hO.out.2
          obtain ⟨ua, uc, hu⟩ := own_slice hown0
          subst hu
          have z0 : wr.cell? ⟨B, 0, none⟩ = some (.slice (some ⟨ga, 0, none⟩) na ca) := by rw [hBw.cell (p := ⟨B, 0, none⟩) hB]; exact c0
          have Hw := Lib.hid hown0
          have HBw := Lib.hid hBw
          have HN : Hid (∀ (j : Nat) (u : Value), (ints A)[j]? = some u → wr.cell? ((⟨ga, 0, none⟩ : Addr).add j) = some u) := fun j u hj => by
            obtain ⟨z, hz, rfl⟩ := ints_of hj
            rw [add_none, HBw.out.cell (p := ⟨ga, j, none⟩) hga]
            exact Hga.out j z hz
          clear hown0 hBw hO
          go_wp2_with (at_builtin; refine wpList_append_lies _ rfl _ _ 38 rfl w.heap.size 3 i3 (.int .i64 0) 1 8 Tryz.underlying38 I.out.1 I.out.2.1 I.out.2.2.1 I.out.2.2.2 rfl (by decide) _ 0 (ints []) rfl Hw.out ⟨ga, 0, none⟩ na ca (ints A) rfl ?c0 ?c1 (ints_one _) ?c2 ?c3 ?c4 ?c5 _ rfl ?_)
          case c0 => rw [ints_len]; simpa using HA.out
          case c1 => exact HN.out
          case c2 => omega
          case c3 => unfold maxLen; omega
          case c4 => omega
          case c5 => exact HBw.out.size
          intro g4 cap4 w4 hown4 hgrow4 hat4 hlt4
          have HO4 : Hid (w4.ownsRow w.heap.size 3 1 (.slice (some ⟨g4, 0, none⟩) (na) cap4) (na) (ints [] ++ ints A) ∧ Below w.heap.size w w4) := ⟨hown4, HBw.out.grown hgrow4 HBw.out.size (fun k hk => (Hw.out.lt k hk).1)⟩
          clear hown4 hgrow4 hat4 hlt4 Hw HBw
          go_wp2_with fail
          go_roundw
          case rel => exact ⟨1, by omega, by go_num, fun h => absurd h (by decide), fun _ => HO4.out, fun h => absurd h (by decide)⟩
          case measure => simp [intOf]
        · have hO := Lib.hid (hR.out.2.1 rfl)
          clear hR
          have hown0 := hO.out.1
          have hBw := hO.out.2
          obtain ⟨ua, uc, hu⟩ := own_slice hown0
          subst hu
          have z0 : wr.cell? ⟨B, 1, none⟩ = some (.slice (some ⟨gb, 0, none⟩) 1 cb) := by rw [hBw.cell (p := ⟨B, 1, none⟩) hB]; exact c1
          have Hw := Lib.hid hown0
          have HBw := Lib.hid hBw
          have HN : Hid (∀ (j : Nat) (u : Value), (ints [x])[j]? = some u → wr.cell? ((⟨gb, 0, none⟩ : Addr).add j) = some u) := fun j u hj => by
            obtain ⟨z, hz, rfl⟩ := ints_of hj
            rw [add_none, HBw.out.cell (p := ⟨gb, j, none⟩) hgb]
            exact Hgb.out j z hz
          clear hown0 hBw hO
          go_wp2_with (at_builtin; refine wpList_append_lies _ rfl _ _ 38 rfl w.heap.size 3 i3 (.int .i64 0) 1 8 Tryz.underlying38 I.out.1 I.out.2.1 I.out.2.2.1 I.out.2.2.2 rfl (by decide) _ na (ints A) rfl Hw.out ⟨gb, 0, none⟩ 1 cb (ints [x]) rfl ?c0 ?c1 (ints_one _) ?c2 ?c3 ?c4 ?c5 _ rfl ?_)
          case c0 => rw [ints_len]; simp
          case c1 => exact HN.out
          case c2 => omega
          case c3 => unfold maxLen; omega
          case c4 => omega
          case c5 => exact HBw.out.size
          intro g4 cap4 w4 hown4 hgrow4 hat4 hlt4
          have HO4 : Hid (w4.ownsRow w.heap.size 3 1 (.slice (some ⟨g4, 0, none⟩) (na + 1) cap4) (na + 1) (ints A ++ ints [x]) ∧ Below w.heap.size w w4) := ⟨hown4, HBw.out.grown hgrow4 HBw.out.size (fun k hk => (Hw.out.lt k hk).1)⟩
          clear hown4 hgrow4 hat4 hlt4 Hw HBw
          go_wp2_with fail
          go_roundw
          case rel => exact ⟨2, by omega, by go_num, fun h => absurd h (by decide), fun h => absurd h (by decide), fun _ => ⟨g4, cap4, rfl, by rw [ints_app]; exact HO4.out.1, HO4.out.2⟩⟩
          case measure => simp [intOf]
        · obtain ⟨g, cap, hv, hO⟩ := hR.out.2.2 rfl
          subst hv
          have HO := Lib.hid hO
          clear hR hO
          go_wp2_with fail
          go_ret
          exact ⟨g, cap, rfl, HO.out.1, HO.out.2⟩

end Go.Proofs.YtnpdbieadjgghaaGreat
