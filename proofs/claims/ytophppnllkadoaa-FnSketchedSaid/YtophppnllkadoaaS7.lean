/- An element in a box and a list gathered behind it. -/
import Derived.Test.YtophppnllkadoaaPb
import Derived.Test.YtophppnllkadoaaMu
namespace Go.Proofs.Ytophppnllkadoaa
open Go.RowKit


theorem Try.info43q : (Try.prog.info? 43).map (fun i => (i.zero, i.size, i.bytes)) = some (some (.agg #[.int .i64 0, .int .i64 0, .int .i64 0]), 3, 24) := by kernel_rfl
/-- The element h in block X, and the list O, gathered behind it since w3, in the slice v. -/
structure HRS (w3 wr : World) (X : Nat) (h : Hv) (v : Value) (O : List Hv) : Prop where
  below : Below X w3 wr
  lt : X < w3.heap.size
  frz : ∀ o, wr.frozen? ⟨X, o, none⟩ = false
  c0 : wr.cell? ⟨X, 0, none⟩ = some (.int .i64 h.1)
  c1 : wr.cell? ⟨X, 1, none⟩ = some (.int .i64 h.2.1)
  c2 : wr.cell? ⟨X, 2, none⟩ = some (.int .i64 h.2.2)
  own : wr.ownsRow (X + 1) 43 3 v O.length (ints (flat O))
theorem HRS.size {w3 wr : World} {X : Nat} {h : Hv} {v : Value} {O : List Hv} (s : HRS w3 wr X h v O) : X < wr.heap.size := Nat.lt_of_lt_of_le s.lt s.below.size
theorem HRS.start (v : World) (k n : Int) : HRS (v.alloc (.cells #[.int .i64 k, .int .i64 n, .int .i64 0] 43)) ((v.alloc (.cells #[.int .i64 k, .int .i64 n, .int .i64 0] 43)).alloc (.cells #[] 43)) v.heap.size (k, n, 0) (.slice (some ⟨v.heap.size + 1, 0, none⟩) 0 0) [] where
  below := (Below.refl _ _).alloc (by simp) _
  lt := by simp
  frz o := by rw [old_frz (by simp), new_frz rfl]
  c0 := by rw [old_box (by simp), new_at rfl]; rfl
  c1 := by rw [old_box (by simp), new_at rfl]; rfl
  c2 := by rw [old_box (by simp), new_at rfl]; rfl
  own := by
    have h := (OwnR.lit0 43 3 (v.alloc (.cells #[.int .i64 k, .int .i64 n, .int .i64 0] 43))).row
    rw [show (v.alloc (.cells #[.int .i64 k, .int .i64 n, .int .i64 0] 43)).heap.size = v.heap.size + 1 by simp] at h
    exact h
theorem HRS.grow {w3 wr w4 : World} {X : Nat} {h : Hv} {v : Value} {O : List Hv} (s : HRS w3 wr X h v O) (hb : Below wr.heap.size wr w4) : HRS w3 w4 X h v O := by
  have hs := s.size
  refine ⟨s.below.trans (hb.mono (by omega)), s.lt, fun o => by rw [hb.frozen (p := ⟨X, o, none⟩) hs]; exact s.frz o, by rw [hb.cell (p := ⟨X, 0, none⟩) hs]; exact s.c0, by rw [hb.cell (p := ⟨X, 1, none⟩) hs]; exact s.c1, by rw [hb.cell (p := ⟨X, 2, none⟩) hs]; exact s.c2, ?_⟩
  exact s.own.kept (row := none) ⟨hb.os, hb.tape, hb.output, hb.size, fun j hj _ => hb.block j hj⟩ (by cases hv : v.ownBlock <;> simp)
theorem HRS.keep {w3 wr : World} {X : Nat} {h : Hv} {v : Value} {O : List Hv} {b o : Nat} {u : Value} (s : HRS w3 wr X h v O) (hb : b < X) (hc : w3.cell? ⟨b, o, none⟩ = some u) : wr.cell? ⟨b, o, none⟩ = some u := by rw [s.below.cell (p := ⟨b, o, none⟩) hb]; exact hc
theorem HRS.set1 {w3 wr : World} {X : Nat} {h : Hv} {v : Value} {O : List Hv} (s : HRS w3 wr X h v O) (b : Int) : HRS w3 (wr.setCell ⟨X, 1, none⟩ (.int .i64 b)) X (h.1, b, h.2.2) v O where
  below := s.below.setCell (Nat.le_refl _) _
  lt := s.lt
  frz o := by rw [World.frozen?_setCell]; exact s.frz o
  c0 := by rw [World.cell?_setCell_other _ _ _ _ (by simp)]; exact s.c0
  c1 := World.cell?_setCell_same' _ _ _ (by rw [s.c1]; rfl)
  c2 := by rw [World.cell?_setCell_other _ _ _ _ (by simp)]; exact s.c2
  own := ownsRow_setCell_below s.own (by show X < X + 1; omega) _
theorem HRS.set3 {w3 wr : World} {X : Nat} {h : Hv} {v : Value} {O : List Hv} (s : HRS w3 wr X h v O) (a b c : Int) : HRS w3 (((wr.setCell ⟨X, 0, none⟩ (.int .i64 a)).setCell ⟨X, 1, none⟩ (.int .i64 b)).setCell ⟨X, 2, none⟩ (.int .i64 c)) X (a, b, c) v O where
  below := ((s.below.setCell (Nat.le_refl _) _).setCell (Nat.le_refl _) _).setCell (Nat.le_refl _) _
  lt := s.lt
  frz o := by rw [World.frozen?_setCell, World.frozen?_setCell, World.frozen?_setCell]; exact s.frz o
  c0 := by rw [World.cell?_setCell_other _ _ _ _ (by simp), World.cell?_setCell_other _ _ _ _ (by simp)]; exact World.cell?_setCell_same' _ _ _ (by rw [s.c0]; rfl)
  c1 := by rw [World.cell?_setCell_other _ _ _ _ (by simp)]; exact World.cell?_setCell_same' _ _ _ (by rw [World.cell?_setCell_other _ _ _ _ (by simp), s.c1]; rfl)
  c2 := World.cell?_setCell_same' _ _ _ (by rw [World.cell?_setCell_other _ _ _ _ (by simp), World.cell?_setCell_other _ _ _ _ (by simp), s.c2]; rfl)
  own := ownsRow_setCell_below (ownsRow_setCell_below (ownsRow_setCell_below s.own (by show X < X + 1; omega) _) (by show X < X + 1; omega) _) (by show X < X + 1; omega) _
theorem HRS.app {w3 wr w4 : World} {X : Nat} {h : Hv} {v v' : Value} {O : List Hv} {o : Obj} {a b c : Int} (s : HRS w3 wr X h v O) (hg : (wr.alloc o).grownBy w4 v.ownBlock)
    (hown4 : w4.ownsRow (X + 1) 43 3 v' (O.length + 1) (ints (flat O) ++ ints [a, b, c])) : HRS w3 w4 X h v' (O ++ [(a, b, c)]) := by
  have hs := s.size
  have hne : some X ≠ v.ownBlock := fun e => by have := (s.own.lt X e.symm).1; omega
  have hlt : X < (wr.alloc o).heap.size := by simp; omega
  have hc : ∀ q, w4.cell? ⟨X, q, none⟩ = wr.cell? ⟨X, q, none⟩ := fun q => by rw [hg.cell_far ⟨X, q, none⟩ hlt hne, old_box hs]
  refine ⟨(s.below.alloc (by omega) o).grown hg (by simp; omega) (fun k hk => by have := (s.own.lt k hk).1; omega), s.lt, fun q => ?_, by rw [hc]; exact s.c0, by rw [hc]; exact s.c1, by rw [hc]; exact s.c2, ?_⟩
  · rw [hg.frozen_far ⟨X, q, none⟩ hlt hne, old_frz hs]; exact s.frz q
  · rw [flat_app, flat_one, ints_app, List.length_append]; exact hown4
theorem HRS.drewN {w3 wr : World} {X : Nat} {h : Hv} {v : Value} {O : List Hv} (s : HRS w3 wr X h v O) (q : Nat) : HRS w3 (wr.drewN q) X h v O := s.grow (below_drewN _ _)
theorem HRS.row {w3 wr : World} {X : Nat} {h : Hv} {v : Value} {O : List Hv} (s : HRS w3 wr X h v O) (hl : O.length ≤ 1100000) : Row 3 wr (X + 1) wr.heap.size v O.length (flat O) := row_of_own s.own hl
/-- A slice of a row's first elements. -/
theorem row_take {w : World} {lo hi n cap cap' : Nat} {a : Option Addr} {O : List Hv} (hr : Row 3 w lo hi (.slice a n cap) n (flat O)) (m : Nat) (hm : m ≤ n) (hO : O.length = n) : Row 3 w lo hi (.slice a m cap') m (flat (O.take m)) := by
  obtain ⟨h0, hr⟩ := hr
  refine ⟨by rw [flat_len, List.length_take, hO, Nat.min_eq_left hm], ?_⟩
  rcases hr with ⟨h1, a', c', e⟩ | ⟨g, c2, e, h1, h2, h3, h4, h5⟩
  · left
    obtain rfl : m = 0 := by omega
    exact ⟨rfl, a, cap', rfl⟩
  · simp only [Value.slice.injEq] at e
    obtain ⟨rfl, _, _⟩ := e
    refine .inr ⟨g, cap', rfl, h1, h2, by omega, fun q z hz => h4 q z ?_, h5⟩
    have hq : q < (flat (O.take m)).length := lt_of_at hz
    have hsplit : flat O = flat (O.take m) ++ flat (O.drop m) := by rw [← flat_app, List.take_append_drop]
    rw [hsplit, List.getElem?_append_left hq]
    exact hz
theorem own_room {w : World} {b0 n k c : Nat} {e : TypeId} {a : Option Addr} {xs : List Value} (h : w.ownsRow b0 e k (.slice a n c) n xs) (h0 : 0 < n) : n ≤ c := by
  rcases h.2 with ⟨h1, h2⟩ | ⟨g, cap, cur, h1, h2, h3, h4, h5⟩
  · simp only [Value.slice.injEq] at h1; omega
  · simp only [Value.slice.injEq] at h1; omega

end Go.Proofs.Ytophppnllkadoaa
