/- A trail extended. -/
import Derived.Test.YtnpdbieadjgghaaGreatW24
namespace Go.Proofs.YtnpdbieadjgghaaGreat
open Go.RowKit


theorem newAt {w : World} {b o : Nat} {cs : Array Value} {t : TypeId} (h : b = w.heap.size) : (w.alloc (.cells cs t)).cell? ⟨b, o, none⟩ = cs[o]? := by subst h; exact cell_of_row _ _ _ _ _ _ (heap_alloc_new _ _)
theorem newFrz {w : World} {b o : Nat} {cs : Array Value} {t : TypeId} (h : b = w.heap.size) : (w.alloc (.cells cs t)).frozen? ⟨b, o, none⟩ = false := by subst h; exact frozen_of_row _ _ _ _ _ (heap_alloc_new _ _)
theorem oldFrz {w : World} {b o : Nat} {x : Obj} (h : b < w.heap.size) : (w.alloc x).frozen? ⟨b, o, none⟩ = w.frozen? ⟨b, o, none⟩ := ((Below.refl w.heap.size w).alloc (Nat.le_refl _) x).frozen (p := ⟨b, o, none⟩) h
theorem setR0 {w : World} {R : Nat} {u x y : Value} (h : w.cell? ⟨R, 0, none⟩ = some u) : ((w.setCell ⟨R, 0, none⟩ x).setCell ⟨R, 1, none⟩ y).cell? ⟨R, 0, none⟩ = some x := by
  rw [World.cell?_setCell_other _ _ _ _ (by simp)]
  exact World.cell?_setCell_same' _ _ _ (by rw [h]; rfl)
theorem setR1 {w : World} {R : Nat} {u x y : Value} (h : w.cell? ⟨R, 1, none⟩ = some u) : ((w.setCell ⟨R, 0, none⟩ x).setCell ⟨R, 1, none⟩ y).cell? ⟨R, 1, none⟩ = some y :=
  World.cell?_setCell_same' _ _ _ (by rw [World.cell?_setCell_other _ _ _ _ (by simp), h]; rfl)
theorem ext_after {w w2 : World} {c x : Int} {ga na ca : Nat} (hb : Below (((((w.alloc (.cells #[.int .i64 c, .slice (some ⟨ga, 0, none⟩) na ca] 120)).alloc (.cells #[.int .i64 0, .slice none 0 0] 120)).alloc (.cells #[.int .i64 x] 3)).alloc (.cells #[.slice (some ⟨ga, 0, none⟩) na ca, .slice (some ⟨w.heap.size + 1 + 1, 0, none⟩) 1 1] 38)).drew).heap.size (((((w.alloc (.cells #[.int .i64 c, .slice (some ⟨ga, 0, none⟩) na ca] 120)).alloc (.cells #[.int .i64 0, .slice none 0 0] 120)).alloc (.cells #[.int .i64 x] 3)).alloc (.cells #[.slice (some ⟨ga, 0, none⟩) na ca, .slice (some ⟨w.heap.size + 1 + 1, 0, none⟩) 1 1] 38)).drew) w2) :
    w2.cell? ⟨w.heap.size, 0, none⟩ = some (.int .i64 c) ∧ w2.cell? ⟨w.heap.size, 1, none⟩ = some (.slice (some ⟨ga, 0, none⟩) na ca) ∧ w2.cell? ⟨w.heap.size + 1, 0, none⟩ = some (.int .i64 0) ∧ w2.cell? ⟨w.heap.size + 1, 1, none⟩ = some (.slice none 0 0) ∧ w2.frozen? ⟨w.heap.size + 1, 0, none⟩ = false ∧ w2.frozen? ⟨w.heap.size + 1, 1, none⟩ = false ∧ w.heap.size + 1 < w2.heap.size ∧ Below w.heap.size w w2 := by
  have hs := hb.size
  simp at hs
  obtain ⟨hc, hf⟩ := bcell hb
  refine ⟨?_, ?_, ?_, ?_, ?_, ?_, by omega, ?_⟩
  · rw [hc _ _ (by simp <;> omega), World.cell?_drew, old_box (by simp <;> omega), old_box (by simp <;> omega), old_box (by simp <;> omega), newAt rfl]; rfl
  · rw [hc _ _ (by simp <;> omega), World.cell?_drew, old_box (by simp <;> omega), old_box (by simp <;> omega), old_box (by simp <;> omega), newAt rfl]; rfl
  · rw [hc _ _ (by simp <;> omega), World.cell?_drew, old_box (by simp <;> omega), old_box (by simp <;> omega), newAt (by simp)]; rfl
  · rw [hc _ _ (by simp <;> omega), World.cell?_drew, old_box (by simp <;> omega), old_box (by simp <;> omega), newAt (by simp)]; rfl
  · rw [hf _ _ (by simp <;> omega)]; show ((((w.alloc _).alloc _).alloc _).alloc _).frozen? _ = false; rw [oldFrz (by simp <;> omega), oldFrz (by simp <;> omega), newFrz (by simp)]
  · rw [hf _ _ (by simp <;> omega)]; show ((((w.alloc _).alloc _).alloc _).alloc _).frozen? _ = false; rw [oldFrz (by simp <;> omega), oldFrz (by simp <;> omega), newFrz (by simp)]
  · exact Below.trans (by show Below w.heap.size w _; exact ((((Below.refl _ _).alloc (Nat.le_refl _) _).alloc (by simp) _).alloc (by simp <;> omega) _).alloc (by simp <;> omega) _ |>.drew) (hb.mono (by simp <;> omega))
/-- What the cells of a block hold, and that none is frozen. -/
structure Cels (w : World) (g : Nat) (ns : List Int) : Prop where
  at_ : ∀ q z, ns[q]? = some z → w.cell? ⟨g, q, none⟩ = some (.int .i64 z)
  fz : ∀ q, w.frozen? ⟨g, q, none⟩ = false
instance (w : World) (g : Nat) (ns : List Int) : CoeFun (Cels w g ns) (fun _ => ∀ q z, ns[q]? = some z → w.cell? ⟨g, q, none⟩ = some (.int .i64 z)) := ⟨Cels.at_⟩
instance (w : World) (g : Nat) (ns : List Int) : CoeOut (Cels w g ns) (∀ q z, ns[q]? = some z → w.cell? ⟨g, q, none⟩ = some (.int .i64 z)) := ⟨Cels.at_⟩
/-- A new trail: its nodes lie in a block of their own. -/
def NewTrail (w w' : World) (c : Int) (ns : List Int) (n : Nat) (e : Ending) : Prop := ∃ g cap, e = .returned (.agg #[.int .i64 c, .slice (some ⟨g, 0, none⟩) n cap]) ∧ w.heap.size ≤ g ∧ g < w'.heap.size ∧ Cels w' g ns ∧ Below w.heap.size w w'

set_option maxRecDepth 100000 in
set_option maxHeartbeats 4000000 in
theorem extend_any (c x d : Int) (ga ca na : Nat) (A : List Int) (w : World) (hna0 : 0 < na) (hna : na ≤ 1000) (hA : A.length = na) (hga : ga < w.heap.size) (hc0 : 0 ≤ c) (hc1 : c ≤ 1000000000) (hd0 : 0 ≤ d) (hd1 : d ≤ 1000000)
    (ha : ∀ q z, A[q]? = some z → w.cell? ⟨ga, q, none⟩ = some (.int .i64 z)) :
    Calls Tryz.prog 98 #[.agg #[.int .i64 c, .slice (some ⟨ga, 0, none⟩) na ca], .int .i64 x, .int .i64 d] w fun e w' => NewTrail w w' (c + d) (A ++ [x]) (na + 1) e := by
  have Ha : Hid (∀ q z, A[q]? = some z → (((((w.alloc (.cells #[.int .i64 c, .slice (some ⟨ga, 0, none⟩) na ca] 120)).alloc (.cells #[.int .i64 0, .slice none 0 0] 120)).alloc (.cells #[.int .i64 x] 3)).alloc (.cells #[.slice (some ⟨ga, 0, none⟩) na ca, .slice (some ⟨w.heap.size + 1 + 1, 0, none⟩) 1 1] 38)).drew).cell? ⟨ga, q, none⟩ = some (.int .i64 z)) := fun q z hz => by
    rw [World.cell?_drew, old_box (by simp <;> omega), old_box (by simp <;> omega), old_box (by simp <;> omega), old_box hga]
    exact ha q z hz
  have HA := Lib.hid hA
  have hw1 : IntKind.i64.wrap (c + d) = c + d := IntWalk.i64_in _ (by omega)
  clear ha hA
  go_enter Tryz.func98, Tryz.ntmps98
  go_wp2_with fail
  go_region_with (first | (go_at_call 41; refine (concat_any (w.heap.size + 1 + 1 + 1) ga ca (w.heap.size + 1 + 1) 1 na A x _ hna0 hna HA.out (by simp) (by simp <;> omega) (by simp <;> omega) (by simp [go_sem]) (by simp [go_sem]) Ha.out (by simp [go_sem])).mono ?_; rintro e w2 ⟨g4, cap4, rfl, hown, hbw⟩; obtain ⟨b0, b1, b2, b3, b4, b5, b6, b7⟩ := ext_after hbw; have HO := Lib.hid hown; have HB := Lib.hid b7; clear hown hbw b7))
  all_goals
    have hgl := HO.out.lt g4 rfl
    have hg4 : w.heap.size + 1 ≠ g4 := by have := hgl.1; simp at this; omega
    have hg5 : w.heap.size ≤ g4 := by have := hgl.1; simp at this; omega
    have r0 := setR0 (x := .int .i64 (c + d)) (y := .slice (some ⟨g4, 0, none⟩) (na + 1) cap4) b2
    have r1 := setR1 (x := .int .i64 (c + d)) (y := .slice (some ⟨g4, 0, none⟩) (na + 1) cap4) b3
    have HC : Hid (∀ q z, (A ++ [x])[q]? = some z → w2.cell? ⟨g4, q, none⟩ = some (.int .i64 z)) := fun q z hz => by
      have := HO.out.cells (g := g4) rfl _ _ (ints_at hz)
      rw [add_none] at this
      exact this
    have HZ : Hid (∀ q, w2.frozen? ⟨g4, q, none⟩ = false) := fun q => HO.out.frozenAt q
    have Hg := Lib.hid (And.intro hgl.2 (And.intro hg4 hg5))
    clear hgl HO hg5
    go_wp2_with fail
    refine bodyPost_ret (v := .agg #[.int .i64 (c + d), .slice (some ⟨g4, 0, none⟩) (na + 1) cap4]) (by simp [results, Tryz.results98, go_sem, r0, r1]) rfl ⟨g4, cap4, rfl, Hg.out.2.2, by simpa [World.setCell] using Hg.out.1, ⟨fun q z hz => ?_, fun q => ?_⟩, ?_⟩
    · rw [World.cell?_setCell_other _ _ _ _ (by simp <;> omega), World.cell?_setCell_other _ _ _ _ (by simp <;> omega)]; exact HC.out q z hz
    · rw [World.frozen?_setCell, World.frozen?_setCell]; exact HZ.out q
    · exact (HB.out.setCell (by show _ ≤ w.heap.size + 1; omega) _).setCell (by show _ ≤ w.heap.size + 1; omega) _

end Go.Proofs.YtnpdbieadjgghaaGreat
