/- The copy of a graph: the program. -/
import Derived.Test.YtkkfgnnhdcmmjabW16
import Derived.Test.YtkkfgnnhdcmmjabW12
namespace Go.Proofs.Ytkkfgnnhdcmmjab
open Go.RowKit


/-- A copy of the edges L: nil, or a block of its own with room. -/
def CopyRow (w w' : World) (n : Nat) (L : List Ed) (rv : Value) : Prop :=
  (n = 0 ∧ rv = .slice none 0 0) ∨ ∃ g cap, rv = .slice (some ⟨g, 0, none⟩) n cap ∧ n ≤ cap ∧ w.heap.size ≤ g ∧ g < w'.heap.size ∧ (∀ o, w'.frozen? ⟨g, o, none⟩ = false) ∧ ∀ q z, (flat L)[q]? = some z → w'.cell? ⟨g, q, none⟩ = some (.int .i64 z)
def CopyPost (N : Int) (n : Nat) (L : List Ed) (w : World) (e : Ending) (w' : World) : Prop := ∃ rv, e = .returned (.agg #[.int .i64 N, rv]) ∧ CopyRow w w' n L rv ∧ Below w.heap.size w w'
theorem copy_of_own {w w' w2 : World} {n : Nat} {L : List Ed} {g cap : Nat} (hown : w'.ownsRow w.heap.size 56 3 (.slice (some ⟨g, 0, none⟩) n cap) n (ints (flat L))) (hc : ∀ o, w2.cell? ⟨g, o, none⟩ = w'.cell? ⟨g, o, none⟩) (hf : ∀ o, w2.frozen? ⟨g, o, none⟩ = w'.frozen? ⟨g, o, none⟩) (hs : w'.heap.size ≤ w2.heap.size) :
    CopyRow w w2 n L (.slice (some ⟨g, 0, none⟩) n cap) := by
  have hlt := hown.lt g rfl
  have hcells := fun q z (h : (flat L)[q]? = some z) => hown.cells (g := g) rfl _ _ (ints_at h)
  obtain ⟨h1, h2⟩ := hown
  rcases h2 with ⟨h3, _⟩ | ⟨g', cap', cur, h3, h4, h5, h6, h7, _⟩
  · cases h3
  · obtain ⟨rfl, rfl⟩ : g = g' ∧ cap = cap' := by simpa using h3
    refine Or.inr ⟨g, cap, rfl, by omega, h4, by omega, fun o => by rw [hf]; simp [World.frozen?, h5], fun q z hz => ?_⟩
    rw [hc]
    have := hcells q z hz
    rw [add_none] at this
    exact this
theorem append_none (ad : Option Addr) (cp : Nat) (ty : TypeId) (w : World) : (Builtin.append_ #[27, 27] ty #[.slice none 0 0, .slice ad 0 cp]).run Try.prog w = .ok (.slice none 0 0) w := by
  obtain ⟨i59, hi, hz0, hz1, hz2⟩ := info_parts Try.info56
  cases ad <;> simp [Builtin.append_, run_underlying Try.underlying27, typeInfo, hi, Builtin.lenOf, Builtin.firstCells, go_sem]

set_option maxRecDepth 100000 in
set_option maxHeartbeats 2000000 in
theorem copy_nil (N : Int) (ad : Option Addr) (cp : Nat) (w : World) : Calls Try.prog 42 #[.agg #[.int .i64 N, .slice ad 0 cp]] w (CopyPost N 0 [] w) := by
  cases ad
  all_goals
    go_enter Try.func42, Try.ntmps42
    go_wp2_with fail
    go_region
    go_wp2_with fail
    refine bodyPost_ret (v := .agg #[.int .i64 N, .slice none 0 0]) (by simp [results, Try.results42, go_sem]) rfl ⟨_, rfl, Or.inl ⟨rfl, rfl⟩, ?_⟩
    go_grown

theorem copy_grown {w w4 : World} {x y : Value} (h : (((w.alloc (.cells #[x, y] 29)).alloc (.cells #[.int .i64 0, .slice none 0 0] 29)).drew).grownBy w4 (Value.slice none 0 0).ownBlock) :
    (w4.cell? ⟨w.heap.size, 0, none⟩ = some x ∧ w.heap.size < w4.heap.size) ∧ w4.cell? ⟨w.heap.size + 1, 0, none⟩ = some (.int .i64 0) ∧ w4.cell? ⟨w.heap.size + 1, 1, none⟩ = some (.slice none 0 0) ∧ w4.frozen? ⟨w.heap.size + 1, 0, none⟩ = false ∧ w4.frozen? ⟨w.heap.size + 1, 1, none⟩ = false ∧ w.heap.size + 1 < w4.heap.size ∧ Below w.heap.size w w4 := by
  have hl : w.heap.size + 1 < (((w.alloc (.cells #[x, y] 29)).alloc (.cells #[.int .i64 0, .slice none 0 0] 29)).drew).heap.size := by simp
  have hB : Below w.heap.size w ((w.alloc (.cells #[x, y] 29)).alloc (.cells #[.int .i64 0, .slice none 0 0] 29)).drew := by go_grown
  have hs := h.size
  refine ⟨⟨?_, by omega⟩, ?_, ?_, ?_, ?_, by omega, hB.grown h (by simp; omega) (fun k hk => by simp [Value.ownBlock] at hk)⟩
  · rw [h.cell_far ⟨w.heap.size, 0, none⟩ (by simp; omega) (by simp [Value.ownBlock])]; simp [go_sem]
  · rw [h.cell_far ⟨w.heap.size + 1, 0, none⟩ hl (by simp [Value.ownBlock])]; simp [go_sem]
  · rw [h.cell_far ⟨w.heap.size + 1, 1, none⟩ hl (by simp [Value.ownBlock])]; simp [go_sem]
  · rw [h.frozen_far ⟨w.heap.size + 1, 0, none⟩ hl (by simp [Value.ownBlock])]; simp [go_sem]
  · rw [h.frozen_far ⟨w.heap.size + 1, 1, none⟩ hl (by simp [Value.ownBlock])]; simp [go_sem]

theorem copy_at {w : World} {o1 o2 : Obj} {g4 : Nat} (h : (Value.slice none 0 0).ownBlock = some g4 ∨ g4 = ((w.alloc o1).alloc o2).drew.heap.size) : g4 = w.heap.size + 1 + 1 := by
  rcases h with h | h
  · cases h
  · rw [h]; simp

set_option maxRecDepth 100000 in
set_option maxHeartbeats 2000000 in
theorem copy_some (N : Int) (g n cp : Nat) (L : List Ed) (w : World) (hn0 : 0 < n) (hn : n ≤ 1048576) (hL : L.length = n) (hg : g < w.heap.size) (hc : ∀ q z, (flat L)[q]? = some z → w.cell? ⟨g, q, none⟩ = some (.int .i64 z)) :
    Calls Try.prog 42 #[.agg #[.int .i64 N, .slice (some ⟨g, 0, none⟩) n cp]] w (CopyPost N n L w) := by
  obtain ⟨i59, hi, hz0, hz1, hz2⟩ := info_parts Try.info56
  have I := Lib.hid (And.intro hi (And.intro hz0 (And.intro hz1 hz2)))
  have HL := Lib.hid hL
  have HC := Lib.hid hc
  have HN : Hid (∀ j u, (ints (flat L))[j]? = some u → ((w.alloc (.cells #[.int .i64 N, .slice (some ⟨g, 0, none⟩) n cp] 29)).alloc (.cells #[.int .i64 0, .slice none 0 0] 29)).drew.cell? ((⟨g, 0, none⟩ : Addr).add j) = some u) := fun j u hu => by
    obtain ⟨z, hz, rfl⟩ := ints_of hu
    rw [add_none]
    show ((w.alloc _).alloc _).cell? _ = _
    rw [old_box (by simp; omega), old_box hg]
    exact hc j z hz
  clear hi hz0 hz1 hz2 hL hc
  go_enter Try.func42, Try.ntmps42
  go_wp2_with fail
  go_region_law (first
    | (refine step_append_lies _ rfl _ _ 27 rfl w.heap.size 56 i59 (.agg #[.int .i64 0, .int .i64 0, .int .i64 0]) 3 24 Try.underlying27 I.out.1 I.out.2.1 I.out.2.2.1 I.out.2.2.2 rfl (by decide) (.slice none 0 0) 0 [] rfl ⟨by simp, .inl ⟨rfl, rfl⟩⟩ ⟨g, 0, none⟩ n cp (ints (flat L)) rfl (by rw [ints_len, flat_len, HL.out]) (HN.out) (ints_one _) hn0 (by unfold maxLen; omega) (by omega) (by simp; omega) _ rfl ?_; intro g4 cap4 w4 hown4 hgrow4 hat4 hlt4; obtain ⟨⟨b5, b6⟩, b0, b1, b2, b3, hsz4, hB4⟩ := copy_grown hgrow4; rw [List.nil_append, Nat.zero_add] at hown4; have HO4 := Lib.hid hown4; have HA4 : Hid (g4 = w.heap.size + 1 + 1) := copy_at hat4; clear hown4 hgrow4 hat4))
  all_goals
    have hne0 : w.heap.size + 1 ≠ g4 := by have := HA4.out; omega
    go_wp2_with fail
    have r0 := set2_0 (x := .int .i64 N) (y := .slice (some ⟨g4, 0, none⟩) n cap4) b0
    have r1 := set2_1 (x := .int .i64 N) (y := .slice (some ⟨g4, 0, none⟩) n cap4) b1
    refine bodyPost_ret (v := .agg #[.int .i64 N, .slice (some ⟨g4, 0, none⟩) n cap4]) (by simp [results, Try.results42, go_sem, r0, r1]) rfl ⟨_, rfl, copy_of_own HO4.out (fun o => ?_) (fun o => by simp) (by simp [World.setCell]), ?_⟩
    · rw [World.cell?_setCell_other _ _ _ _ (by simp <;> omega), World.cell?_setCell_other _ _ _ _ (by simp <;> omega)]
    · exact (hB4.setCell (by show _ ≤ w.heap.size + 1; omega) _).setCell (by show _ ≤ w.heap.size + 1; omega) _
theorem copy_any (N : Int) (lo hi n : Nat) (v : Value) (L : List Ed) (w : World) (hL : L.length = n) (hr : Row 3 w lo hi v n (flat L)) (hh : hi ≤ w.heap.size) (hn : n ≤ 1048576) : Calls Try.prog 42 #[.agg #[.int .i64 N, v]] w (CopyPost N n L w) := by
  obtain ⟨a, c, rfl, _, hc⟩ := hr.opened
  by_cases h0 : n = 0
  · subst h0
    obtain rfl : L = [] := List.eq_nil_of_length_eq_zero hL
    exact copy_nil N a c w
  · obtain ⟨g, rfl, h2, h3⟩ := hc (by omega)
    exact copy_some N g n c L w (by omega) hn hL (by omega) h3

end Go.Proofs.Ytkkfgnnhdcmmjab
