/- A trail extended. -/
import Derived.Test.YtjenjdhoblcohaaW23
import Derived.Deep.AppendLies
namespace Go.Proofs.Ytjenjdhoblcohaa
open Go.RowKit

/-- What has been put together of two parts. -/
def CatRel (w wr : World) (A : List Int) (na : Nat) (x : Int) (k : Nat) (v : Value) : Prop :=
  (k = 0 → wr.ownsRow w.heap.size 3 1 v 0 [] ∧ Below w.heap.size w wr) ∧ (k = 1 → wr.ownsRow w.heap.size 3 1 v na (ints A) ∧ Below w.heap.size w wr) ∧ (k = 2 → ∃ g cap, v = .slice (some ⟨g, 0, none⟩) (na + 1) cap ∧ wr.ownsRow w.heap.size 3 1 (.slice (some ⟨g, 0, none⟩) (na + 1) cap) (na + 1) (ints (A ++ [x])) ∧ Below w.heap.size w wr)
def CatPost (w : World) (A : List Int) (na : Nat) (x : Int) (e : Ending) (w' : World) : Prop := ∃ g cap, e = .returned (.slice (some ⟨g, 0, none⟩) (na + 1) cap) ∧ w'.ownsRow w.heap.size 3 1 (.slice (some ⟨g, 0, none⟩) (na + 1) cap) (na + 1) (ints (A ++ [x])) ∧ Below w.heap.size w w'

set_option maxHeartbeats 4000000 in
set_option maxRecDepth 100000 in
theorem concat_any (B ga ca gb cb na : Nat) (A : List Int) (x : Int) (w : World) (hna0 : 0 < na) (hna : na ≤ 1000) (hA : A.length = na) (hB : B < w.heap.size) (hga : ga < w.heap.size) (hgb : gb < w.heap.size)
    (c0 : w.cell? ⟨B, 0, none⟩ = some (.slice (some ⟨ga, 0, none⟩) na ca)) (c1 : w.cell? ⟨B, 1, none⟩ = some (.slice (some ⟨gb, 0, none⟩) 1 cb))
    (ha : ∀ q z, A[q]? = some z → w.cell? ⟨ga, q, none⟩ = some (.int .i64 z)) (hb : w.cell? ⟨gb, 0, none⟩ = some (.int .i64 x)) :
    Calls Try.prog 93 #[.slice (some ⟨B, 0, none⟩) 2 2] w (CatPost w A na x) := by
  have HA := Lib.hid hA
  have Hga := Lib.hid ha
  have Hgb : Hid (∀ q z, [x][q]? = some z → w.cell? ⟨gb, q, none⟩ = some (.int .i64 z)) := fun q z hz => by
    rcases q with _ | q
    · simp at hz; subst hz; exact hb
    · simp at hz
  obtain ⟨i3, hi, hz0, hz1, hz2⟩ := info_parts Try.info3
  have I := Lib.hid (And.intro hi (And.intro hz0 (And.intro hz1 hz2)))
  clear hi hz0 hz1 hz2 hA ha hb
  go_enter Try.func93, Try.ntmps93
  go_wp2
  go_loop [3, 11] (fun s i => ∃ k : Nat, k ≤ 2 ∧ i = .int .i64 (k : Int) ∧ ((k = 0 ∧ s = .int .i64 0) ∨ (k = 1 ∧ s = .int .i64 (na : Int)) ∨ (k = 2 ∧ s = .int .i64 ((na : Int) + 1)))) (fun _ i => 2 - (intOf i).toNat)
  case atStart => exact ⟨0, by omega, rfl, .inl ⟨rfl, rfl⟩⟩
  case round =>
    obtain ⟨k, hk, rfl, hs⟩ := hrel
    have q3 : decide ((na : Int) < 0) = false := decide_eq_false (by omega)
    have q4 : decide ((na : Int) + 1 < 0) = false := decide_eq_false (by omega)
    rcases hs with ⟨rfl, rfl⟩ | ⟨rfl, rfl⟩ | ⟨rfl, rfl⟩
    · go_wp2
      go_round
      case rel => exact ⟨1, by omega, by go_num, .inr (.inl ⟨rfl, by go_num⟩)⟩
      case measure => simp [intOf]
    · go_wp2
      go_round
      case rel => exact ⟨2, by omega, by go_num, .inr (.inr ⟨rfl, by go_num⟩)⟩
      case measure => simp [intOf]
    · have hgr := grow_any (na + 1) w (by omega) (by omega)
      rw [show ((na + 1 : Nat) : Int) = (na : Int) + 1 by omega] at hgr
      have HGr := Lib.hid hgr
      clear hgr
      go_wp2_with fail
      go_at_call 112
      refine (HGr.out).mono ?_
      rintro e w1 ⟨G, rfl, hown, hbw, hsz⟩
      have HC0 : Hid (CatRel w w1 A na x 0 (.slice (some ⟨w.heap.size, 0, none⟩) 0 G)) := ⟨fun _ => ⟨hown, hbw⟩, fun h => absurd h (by decide), fun h => absurd h (by decide)⟩
      clear hown hbw hsz HGr
      go_wp2_with fail
      go_loopw [6, 27] (fun v i wr => ∃ k : Nat, k ≤ 2 ∧ i = .int .i64 (k : Int) ∧ Hid (CatRel w wr A na x k v)) (fun _ i _ => 2 - (intOf i).toNat)
      case atStart => exact ⟨0, by omega, rfl, HC0⟩
      case round =>
        obtain ⟨k, hk, rfl, hR⟩ := hrel
        have hk3 : k = 0 ∨ k = 1 ∨ k = 2 := by omega
        rcases hk3 with rfl | rfl | rfl
        · have hO := Lib.hid (hR.out.1 rfl)
          clear hR
          have hown0 := hO.out.1
          have hBw := hO.out.2
          obtain ⟨ua, uc, hu⟩ := own_slice hown0
          subst hu
          have z0 : wr.cell? ⟨B, 0, none⟩ = some (.slice (some ⟨ga, 0, none⟩) na ca) := by rw [hBw.cell (p := ⟨B, 0, none⟩) hB]; exact c0
          have Hw := Lib.hid hown0
          have HBw := Lib.hid hBw
          have HN : Hid (∀ (j : Nat) (u : Value), (ints A)[j]? = some u → wr.cell? ((⟨ga, 0, none⟩ : Addr).add j) = some u) := fun j u hj => by
            obtain ⟨z, hz, rfl⟩ := ints_of hj
            rw [add_none, HBw.out.cell (p := ⟨ga, j, none⟩) hga]
            exact Hga.out j z hz
          clear hown0 hBw hO
          go_wp2_with (at_builtin; refine wpList_append_lies _ rfl _ _ 33 rfl w.heap.size 3 i3 (.int .i64 0) 1 8 Try.underlying33 I.out.1 I.out.2.1 I.out.2.2.1 I.out.2.2.2 rfl (by decide) _ 0 (ints []) rfl Hw.out ⟨ga, 0, none⟩ na ca (ints A) rfl ?c0 ?c1 (ints_one _) ?c2 ?c3 ?c4 ?c5 _ rfl ?_)
          case c0 => rw [ints_len]; simpa using HA.out
          case c1 => exact HN.out
          case c2 => omega
          case c3 => unfold maxLen; omega
          case c4 => omega
          case c5 => exact HBw.out.size
          intro g4 cap4 w4 hown4 hgrow4 hat4 hlt4
          have HO4 : Hid (w4.ownsRow w.heap.size 3 1 (.slice (some ⟨g4, 0, none⟩) (na) cap4) (na) (ints [] ++ ints A) ∧ Below w.heap.size w w4) := ⟨hown4, HBw.out.grown hgrow4 HBw.out.size (fun k hk => (Hw.out.lt k hk).1)⟩
          clear hown4 hgrow4 hat4 hlt4 Hw HBw
          go_wp2_with fail
          go_roundw
          case rel => exact ⟨1, by omega, by go_num, fun h => absurd h (by decide), fun _ => HO4.out, fun h => absurd h (by decide)⟩
          case measure => simp [intOf]
        · have hO := Lib.hid (hR.out.2.1 rfl)
          clear hR
          have hown0 := hO.out.1
          have hBw := hO.out.2
          obtain ⟨ua, uc, hu⟩ := own_slice hown0
          subst hu
          have z0 : wr.cell? ⟨B, 1, none⟩ = some (.slice (some ⟨gb, 0, none⟩) 1 cb) := by rw [hBw.cell (p := ⟨B, 1, none⟩) hB]; exact c1
          have Hw := Lib.hid hown0
          have HBw := Lib.hid hBw
          have HN : Hid (∀ (j : Nat) (u : Value), (ints [x])[j]? = some u → wr.cell? ((⟨gb, 0, none⟩ : Addr).add j) = some u) := fun j u hj => by
            obtain ⟨z, hz, rfl⟩ := ints_of hj
            rw [add_none, HBw.out.cell (p := ⟨gb, j, none⟩) hgb]
            exact Hgb.out j z hz
          clear hown0 hBw hO
          go_wp2_with (at_builtin; refine wpList_append_lies _ rfl _ _ 33 rfl w.heap.size 3 i3 (.int .i64 0) 1 8 Try.underlying33 I.out.1 I.out.2.1 I.out.2.2.1 I.out.2.2.2 rfl (by decide) _ na (ints A) rfl Hw.out ⟨gb, 0, none⟩ 1 cb (ints [x]) rfl ?c0 ?c1 (ints_one _) ?c2 ?c3 ?c4 ?c5 _ rfl ?_)
          case c0 => rw [ints_len]; simp
          case c1 => exact HN.out
          case c2 => omega
          case c3 => unfold maxLen; omega
          case c4 => omega
          case c5 => exact HBw.out.size
          intro g4 cap4 w4 hown4 hgrow4 hat4 hlt4
          have HO4 : Hid (w4.ownsRow w.heap.size 3 1 (.slice (some ⟨g4, 0, none⟩) (na + 1) cap4) (na + 1) (ints A ++ ints [x]) ∧ Below w.heap.size w w4) := ⟨hown4, HBw.out.grown hgrow4 HBw.out.size (fun k hk => (Hw.out.lt k hk).1)⟩
          clear hown4 hgrow4 hat4 hlt4 Hw HBw
          go_wp2_with fail
          go_roundw
          case rel => exact ⟨2, by omega, by go_num, fun h => absurd h (by decide), fun h => absurd h (by decide), fun _ => ⟨g4, cap4, rfl, by rw [ints_app]; exact HO4.out.1, HO4.out.2⟩⟩
          case measure => simp [intOf]
        · obtain ⟨g, cap, hv, hO⟩ := hR.out.2.2 rfl
          subst hv
          have HO := Lib.hid hO
          clear hR hO
          go_wp2_with fail
          go_ret
          exact ⟨g, cap, rfl, HO.out.1, HO.out.2⟩

theorem newAt {w : World} {b o : Nat} {cs : Array Value} {t : TypeId} (h : b = w.heap.size) : (w.alloc (.cells cs t)).cell? ⟨b, o, none⟩ = cs[o]? := by subst h; exact cell_of_row _ _ _ _ _ _ (heap_alloc_new _ _)
theorem newFrz {w : World} {b o : Nat} {cs : Array Value} {t : TypeId} (h : b = w.heap.size) : (w.alloc (.cells cs t)).frozen? ⟨b, o, none⟩ = false := by subst h; exact frozen_of_row _ _ _ _ _ (heap_alloc_new _ _)
theorem oldFrz {w : World} {b o : Nat} {x : Obj} (h : b < w.heap.size) : (w.alloc x).frozen? ⟨b, o, none⟩ = w.frozen? ⟨b, o, none⟩ := ((Below.refl w.heap.size w).alloc (Nat.le_refl _) x).frozen (p := ⟨b, o, none⟩) h
theorem setR0 {w : World} {R : Nat} {u x y : Value} (h : w.cell? ⟨R, 0, none⟩ = some u) : ((w.setCell ⟨R, 0, none⟩ x).setCell ⟨R, 1, none⟩ y).cell? ⟨R, 0, none⟩ = some x := by
  rw [World.cell?_setCell_other _ _ _ _ (by simp)]
  exact World.cell?_setCell_same' _ _ _ (by rw [h]; rfl)
theorem setR1 {w : World} {R : Nat} {u x y : Value} (h : w.cell? ⟨R, 1, none⟩ = some u) : ((w.setCell ⟨R, 0, none⟩ x).setCell ⟨R, 1, none⟩ y).cell? ⟨R, 1, none⟩ = some y :=
  World.cell?_setCell_same' _ _ _ (by rw [World.cell?_setCell_other _ _ _ _ (by simp), h]; rfl)
theorem ext_after {w w2 : World} {c x : Int} {ga na ca : Nat} (hb : Below (((((w.alloc (.cells #[.int .i64 c, .slice (some ⟨ga, 0, none⟩) na ca] 86)).alloc (.cells #[.int .i64 0, .slice none 0 0] 86)).alloc (.cells #[.int .i64 x] 3)).alloc (.cells #[.slice (some ⟨ga, 0, none⟩) na ca, .slice (some ⟨w.heap.size + 1 + 1, 0, none⟩) 1 1] 33)).drew).heap.size (((((w.alloc (.cells #[.int .i64 c, .slice (some ⟨ga, 0, none⟩) na ca] 86)).alloc (.cells #[.int .i64 0, .slice none 0 0] 86)).alloc (.cells #[.int .i64 x] 3)).alloc (.cells #[.slice (some ⟨ga, 0, none⟩) na ca, .slice (some ⟨w.heap.size + 1 + 1, 0, none⟩) 1 1] 33)).drew) w2) :
    w2.cell? ⟨w.heap.size, 0, none⟩ = some (.int .i64 c) ∧ w2.cell? ⟨w.heap.size, 1, none⟩ = some (.slice (some ⟨ga, 0, none⟩) na ca) ∧ w2.cell? ⟨w.heap.size + 1, 0, none⟩ = some (.int .i64 0) ∧ w2.cell? ⟨w.heap.size + 1, 1, none⟩ = some (.slice none 0 0) ∧ w2.frozen? ⟨w.heap.size + 1, 0, none⟩ = false ∧ w2.frozen? ⟨w.heap.size + 1, 1, none⟩ = false ∧ w.heap.size + 1 < w2.heap.size ∧ Below w.heap.size w w2 := by
  have hs := hb.size
  simp at hs
  obtain ⟨hc, hf⟩ := bcell hb
  refine ⟨?_, ?_, ?_, ?_, ?_, ?_, by omega, ?_⟩
  · rw [hc _ _ (by simp <;> omega), World.cell?_drew, old_box (by simp <;> omega), old_box (by simp <;> omega), old_box (by simp <;> omega), newAt rfl]; rfl
  · rw [hc _ _ (by simp <;> omega), World.cell?_drew, old_box (by simp <;> omega), old_box (by simp <;> omega), old_box (by simp <;> omega), newAt rfl]; rfl
  · rw [hc _ _ (by simp <;> omega), World.cell?_drew, old_box (by simp <;> omega), old_box (by simp <;> omega), newAt (by simp)]; rfl
  · rw [hc _ _ (by simp <;> omega), World.cell?_drew, old_box (by simp <;> omega), old_box (by simp <;> omega), newAt (by simp)]; rfl
  · rw [hf _ _ (by simp <;> omega)]; show ((((w.alloc _).alloc _).alloc _).alloc _).frozen? _ = false; rw [oldFrz (by simp <;> omega), oldFrz (by simp <;> omega), newFrz (by simp)]
  · rw [hf _ _ (by simp <;> omega)]; show ((((w.alloc _).alloc _).alloc _).alloc _).frozen? _ = false; rw [oldFrz (by simp <;> omega), oldFrz (by simp <;> omega), newFrz (by simp)]
  · exact Below.trans (by show Below w.heap.size w _; exact ((((Below.refl _ _).alloc (Nat.le_refl _) _).alloc (by simp) _).alloc (by simp <;> omega) _).alloc (by simp <;> omega) _ |>.drew) (hb.mono (by simp <;> omega))
/-- What the cells of a block hold, and that none is frozen. -/
structure Cels (w : World) (g : Nat) (ns : List Int) : Prop where
  at_ : ∀ q z, ns[q]? = some z → w.cell? ⟨g, q, none⟩ = some (.int .i64 z)
  fz : ∀ q, w.frozen? ⟨g, q, none⟩ = false
instance (w : World) (g : Nat) (ns : List Int) : CoeFun (Cels w g ns) (fun _ => ∀ q z, ns[q]? = some z → w.cell? ⟨g, q, none⟩ = some (.int .i64 z)) := ⟨Cels.at_⟩
instance (w : World) (g : Nat) (ns : List Int) : CoeOut (Cels w g ns) (∀ q z, ns[q]? = some z → w.cell? ⟨g, q, none⟩ = some (.int .i64 z)) := ⟨Cels.at_⟩
/-- A new trail: its nodes lie in a block of their own. -/
def NewTrail (w w' : World) (c : Int) (ns : List Int) (n : Nat) (e : Ending) : Prop := ∃ g cap, e = .returned (.agg #[.int .i64 c, .slice (some ⟨g, 0, none⟩) n cap]) ∧ w.heap.size ≤ g ∧ g < w'.heap.size ∧ Cels w' g ns ∧ Below w.heap.size w w'

set_option maxRecDepth 100000 in
set_option maxHeartbeats 4000000 in
theorem extend_any (c x d : Int) (ga ca na : Nat) (A : List Int) (w : World) (hna0 : 0 < na) (hna : na ≤ 1000) (hA : A.length = na) (hga : ga < w.heap.size) (hc0 : 0 ≤ c) (hc1 : c ≤ 1000000000) (hd0 : 0 ≤ d) (hd1 : d ≤ 1000000)
    (ha : ∀ q z, A[q]? = some z → w.cell? ⟨ga, q, none⟩ = some (.int .i64 z)) :
    Calls Try.prog 98 #[.agg #[.int .i64 c, .slice (some ⟨ga, 0, none⟩) na ca], .int .i64 x, .int .i64 d] w fun e w' => NewTrail w w' (c + d) (A ++ [x]) (na + 1) e := by
  have Ha : Hid (∀ q z, A[q]? = some z → (((((w.alloc (.cells #[.int .i64 c, .slice (some ⟨ga, 0, none⟩) na ca] 86)).alloc (.cells #[.int .i64 0, .slice none 0 0] 86)).alloc (.cells #[.int .i64 x] 3)).alloc (.cells #[.slice (some ⟨ga, 0, none⟩) na ca, .slice (some ⟨w.heap.size + 1 + 1, 0, none⟩) 1 1] 33)).drew).cell? ⟨ga, q, none⟩ = some (.int .i64 z)) := fun q z hz => by
    rw [World.cell?_drew, old_box (by simp <;> omega), old_box (by simp <;> omega), old_box (by simp <;> omega), old_box hga]
    exact ha q z hz
  have HA := Lib.hid hA
  have hw1 : IntKind.i64.wrap (c + d) = c + d := IntWalk.i64_in _ (by omega)
  clear ha hA
  go_enter Try.func98, Try.ntmps98
  go_wp2_with fail
  go_region_with (first | (go_at_call 93; refine (concat_any (w.heap.size + 1 + 1 + 1) ga ca (w.heap.size + 1 + 1) 1 na A x _ hna0 hna HA.out (by simp) (by simp <;> omega) (by simp <;> omega) (by simp [go_sem]) (by simp [go_sem]) Ha.out (by simp [go_sem])).mono ?_; rintro e w2 ⟨g4, cap4, rfl, hown, hbw⟩; obtain ⟨b0, b1, b2, b3, b4, b5, b6, b7⟩ := ext_after hbw; have HO := Lib.hid hown; have HB := Lib.hid b7; clear hown hbw b7))
  all_goals
    have hgl := HO.out.lt g4 rfl
    have hg4 : w.heap.size + 1 ≠ g4 := by have := hgl.1; simp at this; omega
    have hg5 : w.heap.size ≤ g4 := by have := hgl.1; simp at this; omega
    have r0 := setR0 (x := .int .i64 (c + d)) (y := .slice (some ⟨g4, 0, none⟩) (na + 1) cap4) b2
    have r1 := setR1 (x := .int .i64 (c + d)) (y := .slice (some ⟨g4, 0, none⟩) (na + 1) cap4) b3
    have HC : Hid (∀ q z, (A ++ [x])[q]? = some z → w2.cell? ⟨g4, q, none⟩ = some (.int .i64 z)) := fun q z hz => by
      have := HO.out.cells (g := g4) rfl _ _ (ints_at hz)
      rw [add_none] at this
      exact this
    have HZ : Hid (∀ q, w2.frozen? ⟨g4, q, none⟩ = false) := fun q => HO.out.frozenAt q
    have Hg := Lib.hid (And.intro hgl.2 (And.intro hg4 hg5))
    clear hgl HO hg5
    go_wp2_with fail
    refine bodyPost_ret (v := .agg #[.int .i64 (c + d), .slice (some ⟨g4, 0, none⟩) (na + 1) cap4]) (by simp [results, Try.results98, go_sem, r0, r1]) rfl ⟨g4, cap4, rfl, Hg.out.2.2, by simpa [World.setCell] using Hg.out.1, ⟨fun q z hz => ?_, fun q => ?_⟩, ?_⟩
    · rw [World.cell?_setCell_other _ _ _ _ (by simp <;> omega), World.cell?_setCell_other _ _ _ _ (by simp <;> omega)]; exact HC.out q z hz
    · rw [World.frozen?_setCell, World.frozen?_setCell]; exact HZ.out q
    · exact (HB.out.setCell (by show _ ≤ w.heap.size + 1; omega) _).setCell (by show _ ≤ w.heap.size + 1; omega) _

end Go.Proofs.Ytjenjdhoblcohaa
