/- Ways that avoid a node; loop-free neighbors, by the program. -/
import Derived.Test.YtnpdbieadjgghaaGreatRows
import Derived.Test.YtnpdbieadjgghaaGreatProg
import Derived.Tactics
import Derived.Tactics2
import Derived.Defers
import Derived.Laws.Pointers
import Derived.Laws.LoneSync
import Derived.RegionTactic
import Derived.RegionCalls
import Derived.ChangeAlike
import Derived.Lib.Hide
import Derived.Test.YtnpdbieadjgghaaGreatRa
import Derived.Test.YtnpdbieadjgghaaGreatAs
import Derived.Test.YtnpdbieadjgghaaGreatTl
import Derived.Test.YtnpdbieadjgghaaGreatLm
namespace Go.Proofs.YtnpdbieadjgghaaGreat
open Go.RowKit

theorem disable (w : World) : (callFunc 142 #[]).run Tryz.prog w = .ok (.value (.tuple #[])) w := run_call_mark0 Tryz.func142 (by kernel_rfl) (by kernel_rfl) (by kernel_rfl) .disable (by kernel_rfl) w
theorem enable (w : World) : (callFunc 144 #[]).run Tryz.prog w = .ok (.value (.tuple #[])) w := run_call_mark0 Tryz.func144 (by kernel_rfl) (by kernel_rfl) (by kernel_rfl) .enable (by kernel_rfl) w
theorem acquire (a : Addr) (w : World) : (callFunc 145 #[.pointer (some a)]).run Tryz.prog w = .ok (.value (.tuple #[])) w := run_call_marked Tryz.func145 (by kernel_rfl) (by kernel_rfl) (by kernel_rfl) .acquire (by kernel_rfl) a w
theorem releaseMerge (a : Addr) (w : World) : (callFunc 147 #[.pointer (some a)]).run Tryz.prog w = .ok (.value (.tuple #[])) w := run_call_marked Tryz.func147 (by kernel_rfl) (by kernel_rfl) (by kernel_rfl) .releaseMerge (by kernel_rfl) a w

set_option maxRecDepth 100000 in
set_option maxHeartbeats 4000000 in
/-- The word is set to 1: entered as a deferred call. -/
theorem store_deferred (a : Addr) (x : Value) (u : FrameMode) (w : World) (hc : w.cell? a = some x) (hz : w.frozen? a = false) :
    CallsD Tryz.prog 129 #[.pointer (some a), .bool true] u w fun e u' w' => u' = u ∧ (e = .returned (.tuple #[]) ∧ w' = w.drew.setCell a (.int .u32 1)) := by
  have hc' : w.drew.cell? a = some x := by go_simp
  have hz' : w.drew.frozen? a = false := by go_simp
  have hst := run_call_store (P := Tryz.prog) Tryz.func139 (by kernel_rfl) (by kernel_rfl) (by kernel_rfl) (by kernel_rfl) (k := .u32) (y := 1) hc' hz'
  go_enter_d Tryz.func129, Tryz.ntmps129
  go_wp2
  go_region_calls
  all_goals (go_end0; exact ⟨rfl, rfl⟩)

set_option maxRecDepth 100000 in
set_option maxHeartbeats 4000000 in
/-- The lock is let go: entered as a deferred call. -/
theorem unlock_deferred (a : Addr) (u : FrameMode) (w : World) (hc : w.cell? a = some (.int .i32 1)) (hz : w.frozen? a = false) :
    CallsD Tryz.prog 128 #[.pointer (some a)] u w fun e u' w' => u' = u ∧ (e = .returned (.tuple #[]) ∧ w' = w.setCell a (.int .i32 0)) := by
  have hd := disable
  have he := enable
  have hr := releaseMerge
  have hadd := run_call_add (P := Tryz.prog) Tryz.func148 (by kernel_rfl) (by kernel_rfl) (by kernel_rfl) .i32 (by kernel_rfl) (y := -1) (s := 0) hc hz (by simp [go_sem]; rfl)
  have hcv := run_convert_to_unsafe (P := Tryz.prog) (src := 192) (dst := 196) Tryz.underlying192 Tryz.underlying196 (by kernel_rfl) hc
  go_enter_d Tryz.func128, Tryz.ntmps128
  go_wp2
  go_end0
  try go_wp2
  try go_end0
  try exact ⟨rfl, rfl⟩

set_option maxRecDepth 100000 in
set_option maxHeartbeats 4000000 in
/-- The lock, free, is taken. -/
theorem lock_free (a : Addr) (w : World) (hc : w.cell? a = some (.int .i32 0)) (hz : w.frozen? a = false) :
    Calls Tryz.prog 127 #[.pointer (some a)] w fun e w' => e = .returned (.tuple #[]) ∧ w' = w.setCell a (.int .i32 1) := by
  have hd := disable
  have he := enable
  have ha := acquire
  have hcas := run_call_cas_hit (P := Tryz.prog) Tryz.func143 (by kernel_rfl) (by kernel_rfl) (by kernel_rfl) .i32 (by kernel_rfl) (y := 1) hc hz
  have hc' : (w.setCell a (.int .i32 1)).cell? a = some (.int .i32 1) := World.cell?_setCell_same w a _ hc
  have hcv := run_convert_to_unsafe (P := Tryz.prog) (src := 192) (dst := 196) Tryz.underlying192 Tryz.underlying196 (by kernel_rfl) hc'
  go_enter Tryz.func127, Tryz.ntmps127
  go_wp2
  first | go_end0 | (simp only [Exit.inBlock, Exit.then]; refine bodyPost_ret (results_none rfl _ _ _) rfl ?_) | refine bodyPost_ret (results_none rfl _ _ _) rfl ?_
  try go_wp2
  try go_end0
  try exact ⟨rfl, rfl⟩

/-- What the function leaves where it is called. -/
def OnceR (b o : Nat) (R : World → Prop) (v : World) : Prop := v.cell? ⟨b, o, none⟩ = some (.int .u32 0) ∧ v.cell? ⟨b, o + 1, none⟩ = some (.int .i32 1) ∧ v.frozen? ⟨b, o, none⟩ = false ∧ v.frozen? ⟨b, o + 1, none⟩ = false ∧ R v

set_option maxRecDepth 100000 in
set_option maxHeartbeats 4000000 in
/-- The slow road of Do: not yet done, the lock free. -/
theorem slow_any (b o : Nat) (R : World → Prop) (w : World) (h0 : w.cell? ⟨b, o, none⟩ = some (.int .u32 0)) (h1 : w.cell? ⟨b, o + 1, none⟩ = some (.int .i32 0))
    (f1 : w.frozen? ⟨b, o + 1, none⟩ = false)
    (hF : Calls Tryz.prog 103 #[.pointer (some ⟨b, 0, none⟩)] (w.setCell ⟨b, o + 1, none⟩ (.int .i32 1)) fun e v => e = .returned (.tuple #[]) ∧ OnceR b o R v) :
    Calls Tryz.prog 113 #[.pointer (some ⟨b, o, none⟩), .func (.func 103) #[.pointer (some ⟨b, 0, none⟩)] #[]] w fun e w' => e = .returned (.tuple #[]) ∧
      ∃ v, R v ∧ w' = (v.drew.setCell ⟨b, o, none⟩ (.int .u32 1)).setCell ⟨b, o + 1, none⟩ (.int .i32 0) := by
  have hl := run_call_load (P := Tryz.prog) Tryz.func126 (by kernel_rfl) (by kernel_rfl) (by kernel_rfl) .u32 (by kernel_rfl) (w := w.setCell ⟨b, o + 1, none⟩ (.int .i32 1)) (a := ⟨b, o, none⟩) (x := 0) ((World.cell?_setCell_other _ ⟨b, o + 1, none⟩ ⟨b, o, none⟩ _ (by simp)).trans h0)
  have hnot : ∀ (x : Bool) (w : World), (Op.unary .not (.bool x)).run Tryz.prog w = .ok (.bool (!x)) w := fun _ _ => rfl
  have HF := Lib.hid hF
  clear hF
  go_enter_defers Tryz.func113, Tryz.ntmps113
  go_wp2_with (first | (go_at_call 127; refine (lock_free ⟨b, o + 1, none⟩ _ (by go_simp) (by go_simp)).mono ?_; rintro e w' ⟨rfl, rfl⟩) | (go_at_call 112; go_in))
  refine HF.out.mono ?_
  rintro e v ⟨rfl, g0, g1, g2, g3, g4⟩
  go_wp2
  -- the door: two deferred calls, the last laid first
  refine leaves_cons (f := 129) (args := #[.pointer (some ⟨b, o, none⟩), .bool true]) (by simp) (by simp [go_sem]) ?_
  refine (store_deferred ⟨b, o, none⟩ (.int .u32 0) .returning _ g0 g2).mono ?_
  rintro e u' w'' ⟨rfl, rfl, rfl⟩
  refine leaves_cons (f := 128) (args := #[.pointer (some ⟨b, o + 1, none⟩)]) (by simp [settle]) (by simp [go_sem]) ?_
  refine (unlock_deferred ⟨b, o + 1, none⟩ _ _ ?_ (by simp [g3])).mono ?_
  · refine (World.cell?_setCell_other _ ⟨b, o, none⟩ ⟨b, o + 1, none⟩ _ (by simp)).trans ?_
    rw [World.cell?_drew]
    exact g1
  rintro e u' w'' ⟨rfl, rfl, rfl⟩
  simp [Leaves, settle, results, Tryz.results113]
  exact ⟨_, g4, rfl⟩

set_option maxRecDepth 100000 in
set_option maxHeartbeats 4000000 in
/-- Do, not yet done, the lock free. -/
theorem do_first (b o : Nat) (R : World → Prop) (w : World) (h0 : w.cell? ⟨b, o, none⟩ = some (.int .u32 0)) (h1 : w.cell? ⟨b, o + 1, none⟩ = some (.int .i32 0))
    (f1 : w.frozen? ⟨b, o + 1, none⟩ = false)
    (hF : Calls Tryz.prog 103 #[.pointer (some ⟨b, 0, none⟩)] (w.setCell ⟨b, o + 1, none⟩ (.int .i32 1)) fun e v => e = .returned (.tuple #[]) ∧ OnceR b o R v) :
    Calls Tryz.prog 102 #[.pointer (some ⟨b, o, none⟩), .func (.func 103) #[.pointer (some ⟨b, 0, none⟩)] #[]] w fun e w' => e = .returned (.tuple #[]) ∧
      ∃ v, R v ∧ w' = (v.drew.setCell ⟨b, o, none⟩ (.int .u32 1)).setCell ⟨b, o + 1, none⟩ (.int .i32 0) := by
  have hl := run_call_load (P := Tryz.prog) Tryz.func126 (by kernel_rfl) (by kernel_rfl) (by kernel_rfl) .u32 (by kernel_rfl) h0
  have hnot : ∀ (x : Bool) (w : World), (Op.unary .not (.bool x)).run Tryz.prog w = .ok (.bool (!x)) w := fun _ _ => rfl
  have HS := Lib.hid (slow_any b o R w h0 h1 f1 hF)
  clear hF
  go_enter Tryz.func102, Tryz.ntmps102
  go_wp2_with (first | (go_at_call 113; refine HS.out.mono ?_; rintro e w' ⟨rfl, v, hv, rfl⟩) | (go_at_call 112; go_in))
  go_end0
  exact ⟨rfl, _, hv, rfl⟩

set_option maxRecDepth 100000 in
set_option maxHeartbeats 4000000 in
/-- Do, done already: nothing is called. -/
theorem do_done (a : Addr) (d : Int) (hd : ¬ d = 0) (fv : Value) (w : World) (h0 : w.cell? a = some (.int .u32 d)) :
    Calls Tryz.prog 102 #[.pointer (some a), fv] w fun e w' => e = .returned (.tuple #[]) ∧ w' = w := by
  have hl := run_call_load (P := Tryz.prog) Tryz.func126 (by kernel_rfl) (by kernel_rfl) (by kernel_rfl) .u32 (by kernel_rfl) h0
  have hnot : ∀ (x : Bool) (w : World), (Op.unary .not (.bool x)).run Tryz.prog w = .ok (.bool (!x)) w := fun _ _ => rfl
  have hd' : (d != 0) = true := by simp [hd]
  go_enter Tryz.func102, Tryz.ntmps102
  go_wp2
  go_end0
  exact ⟨rfl, rfl⟩

/-- Nothing that was there has turned but block X. -/
structure But (X : Nat) (w w' : World) : Prop where
  os : w'.os = w.os
  tape : w'.tape = w.tape
  output : w'.output = w.output
  size : w.heap.size ≤ w'.heap.size
  block : ∀ k, k < w.heap.size → k ≠ X → w'.heap[k]? = w.heap[k]?
theorem But.refl (X : Nat) (w : World) : But X w w := ⟨rfl, rfl, rfl, Nat.le_refl _, fun _ _ _ => rfl⟩
theorem But.trans {X : Nat} {a b c : World} (h : But X a b) (k : But X b c) : But X a c :=
  ⟨k.os.trans h.os, k.tape.trans h.tape, k.output.trans h.output, Nat.le_trans h.size k.size, fun i hi hx => (k.block i (Nat.lt_of_lt_of_le hi h.size) hx).trans (h.block i hi hx)⟩
theorem But.of {X : Nat} {w w' : World} (h : Below w.heap.size w w') : But X w w' := ⟨h.os, h.tape, h.output, h.size, fun k hk _ => h.block k hk⟩
theorem But.drew {X : Nat} {w w' : World} (h : But X w w') : But X w w'.drew := ⟨h.os, h.tape, h.output, h.size, h.block⟩
theorem But.setX {X : Nat} {w w' : World} (h : But X w w') (o : Nat) (u : Value) : But X w (w'.setCell ⟨X, o, none⟩ u) :=
  h.trans ⟨rfl, rfl, rfl, by simp [World.setCell], fun k _ hx => Below.heap_setCell _ _ _ _ hx⟩
theorem But.alloc {X : Nat} {w w' : World} (h : But X w w') (o : Obj) : But X w (w'.alloc o) := h.trans (But.of ((Below.refl _ _).alloc (Nat.le_refl _) o))
theorem But.below {X B : Nat} {w w' : World} (h : But X w w') (hX : B ≤ X) (hB : B ≤ w.heap.size) : Below B w w' := ⟨h.os, h.tape, h.output, h.size, fun k hk => h.block k (by omega) (by omega)⟩
theorem But.cell {X : Nat} {w w' : World} (h : But X w w') {b o : Nat} (hb : b < w.heap.size) (hx : b ≠ X) : w'.cell? ⟨b, o, none⟩ = w.cell? ⟨b, o, none⟩ := World.cell?_of_block (w := w) (h.block b hb hx)
theorem But.frozen {X : Nat} {w w' : World} (h : But X w w') {b o : Nat} (hb : b < w.heap.size) (hx : b ≠ X) : w'.frozen? ⟨b, o, none⟩ = w.frozen? ⟨b, o, none⟩ := World.frozen?_of_block (w := w) (h.block b hb hx)
theorem Row.but {k : Nat} {w w' : World} {X lo hi n : Nat} {v : Value} {Z : List Int} (h : Row k w lo hi v n Z) (hb : But X w w') (hh : hi ≤ w.heap.size) (hx : hi ≤ X ∨ X < lo) : Row k w' lo hi v n Z := by
  obtain ⟨h0, h⟩ := h
  refine ⟨h0, ?_⟩
  rcases h with h | ⟨g, cap, rfl, h1, h2, h3, h4, h5⟩
  · exact .inl h
  · refine .inr ⟨g, cap, rfl, h1, h2, h3, fun q z hz => ?_, fun o => ?_⟩
    · rw [hb.cell (by omega) (by omega)]; exact h4 q z hz
    · rw [hb.frozen (by omega) (by omega)]; exact h5 o

/-- The table of all distances, as rows in memory above block X. -/
def DsP (w : World) (X M : Nat) (L : List Ed) (v : Value) : Prop := ∃ g c, v = .slice (some ⟨g, 0, none⟩) M c ∧ X < g ∧ g < w.heap.size ∧ ∀ x, x < M → ∃ gx cx, w.cell? ⟨g, x, none⟩ = some (.slice (some ⟨gx, 0, none⟩) M cx) ∧ X < gx ∧ gx < w.heap.size ∧ ∀ y, y < M → w.cell? ⟨gx, y, none⟩ = some (.int .i64 (dsT (M : Int) L (x : Int) (y : Int)))
theorem DsP.but {w w' : World} {X M : Nat} {L : List Ed} {v : Value} (h : DsP w X M L v) (hb : But X w w') : DsP w' X M L v := by
  obtain ⟨g, c, rfl, h1, h2, h3⟩ := h
  refine ⟨g, c, rfl, h1, Nat.lt_of_lt_of_le h2 hb.size, fun x hx => ?_⟩
  obtain ⟨gx, cx, k1, k2, k3, k4⟩ := h3 x hx
  exact ⟨gx, cx, by rw [hb.cell h2 (by omega)]; exact k1, k2, Nat.lt_of_lt_of_le k3 hb.size, fun y hy => by rw [hb.cell k3 (by omega)]; exact k4 y hy⟩

/-- Block X is a survey of the graph of M nodes and edges L; its distances are not yet measured, or they are. -/
structure Sv (w : World) (X M : Nat) (L : List Ed) : Prop where
  ok : gok (M : Int) L = true
  lt : X < w.heap.size
  c0 : w.cell? ⟨X, 0, none⟩ = some (.int .i64 (M : Int))
  c1 : ∃ v lo hi n, w.cell? ⟨X, 1, none⟩ = some v ∧ L.length = n ∧ Row 3 w lo hi v n (flat L) ∧ hi ≤ X
  ct : ∀ x y, x < 10 → y < 10 → w.cell? ⟨X, 2 + x * 10 + y, none⟩ = some (.int .i64 (cst L (x : Int) (y : Int)))
  fz : ∀ o, w.frozen? ⟨X, o, none⟩ = false
  c3 : w.cell? ⟨X, 103, none⟩ = some (.int .i32 0)
  st : (w.cell? ⟨X, 102, none⟩ = some (.int .u32 0) ∧ ∃ u, w.cell? ⟨X, 105, none⟩ = some u) ∨ (w.cell? ⟨X, 102, none⟩ = some (.int .u32 1) ∧ ∃ v, w.cell? ⟨X, 105, none⟩ = some v ∧ DsP w X M L v)
/-- A survey stays one where its block is not touched. -/
theorem Sv.grow {w w' : World} {X M : Nat} {L : List Ed} (h : Sv w X M L) (hb : Below w.heap.size w w') : Sv w' X M L := by
  have hc : ∀ o, w'.cell? ⟨X, o, none⟩ = w.cell? ⟨X, o, none⟩ := fun o => hb.cell (p := ⟨X, o, none⟩) h.lt
  obtain ⟨v, lo, hi, n, k1, k2, k3, k4⟩ := h.c1
  refine ⟨h.ok, Nat.lt_of_lt_of_le h.lt hb.size, by rw [hc]; exact h.c0, ⟨v, lo, hi, n, by rw [hc]; exact k1, k2, k3.below hb (by have := h.lt; omega), k4⟩, fun x y hx hy => by rw [hc]; exact h.ct x y hx hy, fun o => by rw [hb.frozen (p := ⟨X, o, none⟩) h.lt]; exact h.fz o, by rw [hc]; exact h.c3, ?_⟩
  rcases h.st with ⟨a, u, b⟩ | ⟨a, v, b, c⟩
  · exact .inl ⟨by rw [hc]; exact a, u, by rw [hc]; exact b⟩
  · exact .inr ⟨by rw [hc]; exact a, v, by rw [hc]; exact b, c.but (But.of hb)⟩
/-- The distances have been measured. -/
def Meas (X : Nat) (w : World) : Prop := w.cell? ⟨X, 102, none⟩ = some (.int .u32 1)
/-- What a function of the survey does to memory: the survey is written at most once. -/
structure Kx (X M : Nat) (L : List Ed) (w w' : World) : Prop where
  but : But X w w'
  sv : Sv w' X M L
  low : Meas X w → Below w.heap.size w w'
theorem Meas.below {X : Nat} {w w' : World} (h : Meas X w) (hX : X < w.heap.size) (hb : Below w.heap.size w w') : Meas X w' := by
  unfold Meas; rw [hb.cell (p := ⟨X, 102, none⟩) hX]; exact h
theorem Kx.refl {X M : Nat} {L : List Ed} {w : World} (h : Sv w X M L) : Kx X M L w w := ⟨But.refl _ _, h, fun _ => Below.refl _ _⟩
theorem Kx.trans {X M : Nat} {L : List Ed} {a b c : World} (hX : X < a.heap.size) (h : Kx X M L a b) (k : Kx X M L b c) : Kx X M L a c :=
  ⟨h.but.trans k.but, k.sv, fun hm => (h.low hm).trans ((k.low (hm.below hX (h.low hm))).mono (h.low hm).size)⟩
theorem Kx.of {X M : Nat} {L : List Ed} {w w' : World} (h : Sv w X M L) (hb : Below w.heap.size w w') : Kx X M L w w' := ⟨But.of hb, h.grow hb, fun _ => hb⟩
theorem Kx.meas {X M : Nat} {L : List Ed} {w w' : World} (h : Kx X M L w w') (hX : X < w.heap.size) (hm : Meas X w) : Meas X w' := hm.below hX (h.low hm)
theorem Sv.M {w : World} {X M : Nat} {L : List Ed} (h : Sv w X M L) : 0 < M ∧ M ≤ 10 := by have := gok_parts h.ok; omega

/-- The rows that AllDistances makes are the table of the distances. -/
theorem DsP.of {w w' : World} {X M : Nat} {L : List Ed} {v : Value} (hG : gok (M : Int) L = true) (hX : X < w.heap.size) (h : SSx w w' v (adN (M : Int) L) (adZ (M : Int) L)) : DsP w' X M L v := by
  obtain ⟨vs, bs, hS⟩ := h
  have hM : 0 < M := by have := gok_parts hG; omega
  rw [adN_yes hG] at hS
  obtain ⟨g, c, rfl, h1, h2⟩ := hS.row.form hM
  refine ⟨g, c, rfl, by omega, h2, fun x hx => ?_⟩
  obtain ⟨k1, k2, k3⟩ := hS.inner x hx
  rw [adZ_len hG hx] at k1
  obtain ⟨gx, cx, e, j1, j2, j3⟩ := row_cells hM k1
  refine ⟨gx, cx, ?_, by omega, by omega, fun y hy => j3 y _ (adZ_at hG hx hy)⟩
  rw [← e, hS.row.cellAt x (by omega)]
  simp [hx]
/-- What measuring leaves. -/
def MeR (w : World) (X M : Nat) (L : List Ed) (v : World) : Prop := But X w v ∧ (∀ o, o < 102 → v.cell? ⟨X, o, none⟩ = w.cell? ⟨X, o, none⟩) ∧ (∀ o, v.frozen? ⟨X, o, none⟩ = w.frozen? ⟨X, o, none⟩) ∧ (∃ u, v.cell? ⟨X, 103, none⟩ = some u) ∧ (∃ u, v.cell? ⟨X, 102, none⟩ = some u) ∧ ∃ rv, v.cell? ⟨X, 105, none⟩ = some rv ∧ DsP v X M L rv
/-- Block X after a store: the other cells are as they were. -/
theorem set_other {w : World} {X o o' : Nat} {u : Value} (h : o ≠ o') : (w.setCell ⟨X, o, none⟩ u).cell? ⟨X, o', none⟩ = w.cell? ⟨X, o', none⟩ := World.cell?_setCell_other _ _ _ _ (by intro e; have := congrArg Addr.off e; simp at this; omega)
theorem set_frozen (w : World) (a p : Addr) (u : Value) : (w.setCell a u).frozen? p = w.frozen? p := by simp [go_sem]

set_option maxRecDepth 100000 in
set_option maxHeartbeats 4000000 in
theorem measure_any (X M : Nat) (L : List Ed) (w : World) (h : Sv w X M L) (h0 : w.cell? ⟨X, 102, none⟩ = some (.int .u32 0)) (h5 : ∃ u, w.cell? ⟨X, 105, none⟩ = some u) :
    Calls Tryz.prog 103 #[.pointer (some ⟨X, 0, none⟩)] (w.setCell ⟨X, 102 + 1, none⟩ (.int .i32 1)) fun e v => e = .returned (.tuple #[]) ∧ OnceR X 102 (MeR w X M L) v := by
  obtain ⟨v, lo, hi, n, k1, hL, hr, hh⟩ := h.c1
  have hX := h.lt
  have hsz : (w.setCell ⟨X, 102 + 1, none⟩ (.int .i32 1)).heap.size = w.heap.size := by simp [World.setCell]
  have hb1 : But X w (w.setCell ⟨X, 102 + 1, none⟩ (.int .i32 1)) := (But.refl X w).setX _ _
  have hr1 := hr.but hb1 (by omega) (.inl hh)
  have a0 : (w.setCell ⟨X, 102 + 1, none⟩ (.int .i32 1)).cell? ⟨X, 0, none⟩ = some (.int .i64 (M : Int)) := by rw [set_other (by omega)]; exact h.c0
  have a1 : (w.setCell ⟨X, 102 + 1, none⟩ (.int .i32 1)).cell? ⟨X, 1, none⟩ = some v := by rw [set_other (by omega)]; exact k1
  have a2 : (w.setCell ⟨X, 102 + 1, none⟩ (.int .i32 1)).cell? ⟨X, 102, none⟩ = some (.int .u32 0) := by rw [set_other (by omega)]; exact h0
  have a3 : (w.setCell ⟨X, 102 + 1, none⟩ (.int .i32 1)).cell? ⟨X, 103, none⟩ = some (.int .i32 1) := World.cell?_setCell_same' _ _ _ (by rw [h.c3]; rfl)
  obtain ⟨u5, hu5⟩ := h5
  have a5 : (w.setCell ⟨X, 102 + 1, none⟩ (.int .i32 1)).cell? ⟨X, 105, none⟩ = some u5 := by rw [set_other (by omega)]; exact hu5
  have aO : Hid (∀ o, o < 102 → (w.setCell ⟨X, 102 + 1, none⟩ (.int .i32 1)).cell? ⟨X, o, none⟩ = w.cell? ⟨X, o, none⟩) := fun o ho => set_other (by omega)
  have aF : Hid (∀ o, (w.setCell ⟨X, 102 + 1, none⟩ (.int .i32 1)).frozen? ⟨X, o, none⟩ = w.frozen? ⟨X, o, none⟩) := fun o => set_frozen _ _ _ _
  have HB1 := Lib.hid hb1
  have HR1 := Lib.hid hr1
  have HS := Lib.hid h
  have hX1 : X < (w.setCell ⟨X, 102 + 1, none⟩ (.int .i32 1)).heap.size := by omega
  have hhi : hi ≤ (w.setCell ⟨X, 102 + 1, none⟩ (.int .i32 1)).heap.size := by omega
  obtain ⟨ad, cp, rfl⟩ := hr1.slice
  clear h0 k1 hb1 hr1 hr h hsz hu5
  generalize w.setCell ⟨X, 102 + 1, none⟩ (.int .i32 1) = w1 at *
  have A2 := Lib.hid a2
  have A3 := Lib.hid a3
  have A5 := Lib.hid a5
  clear a2 a3 a5
  go_enter Tryz.func103, Tryz.ntmps103
  go_wp2_with fail
  go_at_call 61
  refine (iad_yes M lo hi n _ L _ hL HR1.out hhi HS.out.ok).mono ?_
  rintro e w2 ⟨rv, rfl, hss⟩
  have hD := DsP.of HS.out.ok hX1 hss
  have hD0 := hD
  obtain ⟨ug, uc, rfl, _⟩ := hD0
  obtain ⟨_, _, hSS⟩ := hss
  have hb2 := hSS.below
  have hf : ∀ o, w2.frozen? ⟨X, o, none⟩ = false := fun o => by rw [hb2.frozen (p := ⟨X, o, none⟩) hX1, aF.out]; exact HS.out.fz o
  have f5 : w2.frozen? ⟨X, 105, none⟩ = false := hf 105
  have b5 : w2.cell? ⟨X, 105, none⟩ = some u5 := by rw [hb2.cell (p := ⟨X, 105, none⟩) hX1]; exact A5.out
  have HD := Lib.hid hD
  have HB2 := Lib.hid hb2
  have HF := Lib.hid hf
  clear hSS hD hb2 hf
  go_wp2
  go_end0
  have hbb : But X w (w2.setCell ⟨X, 105, none⟩ (.slice (some ⟨ug, 0, none⟩) M uc)) := (HB1.out.trans (But.of HB2.out)).setX _ _
  refine ⟨rfl, ?_, ?_, ?_, ?_, hbb, ?_, ?_, ?_, ?_, _, ?_, HD.out.but ((But.refl X w2).setX _ _)⟩
  · rw [set_other (by omega), HB2.out.cell (p := ⟨X, 102, none⟩) hX1]; exact A2.out
  · rw [set_other (by omega), HB2.out.cell (p := ⟨X, 102 + 1, none⟩) hX1]; exact A3.out
  · rw [set_frozen]; exact HF.out _
  · rw [set_frozen]; exact HF.out _
  · intro o ho
    rw [set_other (by omega), HB2.out.cell (p := ⟨X, o, none⟩) hX1]; exact aO.out o ho
  · intro o
    rw [set_frozen, HB2.out.frozen (p := ⟨X, o, none⟩) hX1]; exact aF.out o
  · exact ⟨_, by rw [set_other (by omega), HB2.out.cell (p := ⟨X, 103, none⟩) hX1]; exact A3.out⟩
  · exact ⟨_, by rw [set_other (by omega), HB2.out.cell (p := ⟨X, 102, none⟩) hX1]; exact A2.out⟩
  · exact World.cell?_setCell_same' _ _ _ (by rw [b5]; rfl)

/-- The distances are there once Do has been called. -/
theorem do_any (X M : Nat) (L : List Ed) (w : World) (h : Sv w X M L) :
    Calls Tryz.prog 102 #[.pointer (some ⟨X, 102, none⟩), .func (.func 103) #[.pointer (some ⟨X, 0, none⟩)] #[]] w fun e w' => e = .returned (.tuple #[]) ∧ Kx X M L w w' ∧ Meas X w' := by
  rcases h.st with ⟨h0, h5⟩ | ⟨h1, h5⟩
  · refine (do_first X 102 (MeR w X M L) w h0 h.c3 (h.fz _) (measure_any X M L w h h0 h5)).mono ?_
    rintro e w' ⟨rfl, v, ⟨hb, hO, hF, ⟨u3, hu3⟩, ⟨u2, hu2⟩, rv, h105, hD⟩, rfl⟩
    have hb2 : But X w ((v.drew.setCell ⟨X, 102, none⟩ (.int .u32 1)).setCell ⟨X, 102 + 1, none⟩ (.int .i32 0)) := ((hb.drew).setX _ _).setX _ _
    have hb3 : But X v ((v.drew.setCell ⟨X, 102, none⟩ (.int .u32 1)).setCell ⟨X, 102 + 1, none⟩ (.int .i32 0)) := (((But.refl X v).drew).setX _ _).setX _ _
    have hlow : ∀ o, o < 102 → ((v.drew.setCell ⟨X, 102, none⟩ (.int .u32 1)).setCell ⟨X, 102 + 1, none⟩ (.int .i32 0)).cell? ⟨X, o, none⟩ = w.cell? ⟨X, o, none⟩ := fun o ho => by
      rw [set_other (by omega), set_other (by omega), World.cell?_drew]; exact hO o ho
    have h102 : ((v.drew.setCell ⟨X, 102, none⟩ (.int .u32 1)).setCell ⟨X, 102 + 1, none⟩ (.int .i32 0)).cell? ⟨X, 102, none⟩ = some (.int .u32 1) := by
      rw [set_other (by omega)]
      exact World.cell?_setCell_same' _ _ _ (by rw [World.cell?_drew, hu2]; rfl)
    obtain ⟨vv, lo, hi, n, k1, k2, k3, k4⟩ := h.c1
    refine ⟨rfl, ⟨hb2, ⟨h.ok, Nat.lt_of_lt_of_le h.lt hb2.size, by rw [hlow 0 (by omega)]; exact h.c0, ⟨vv, lo, hi, n, by rw [hlow 1 (by omega)]; exact k1, k2, k3.but hb2 (by have := h.lt; omega) (.inl k4), k4⟩, fun x y hx hy => by rw [hlow _ (by omega)]; exact h.ct x y hx hy, fun o => by rw [set_frozen, set_frozen]; show v.frozen? _ = false; rw [hF]; exact h.fz o, ?_, .inr ⟨h102, rv, ?_, hD.but hb3⟩⟩, fun hm => by unfold Meas at hm; rw [h0] at hm; cases hm⟩, h102⟩
    · exact World.cell?_setCell_same' _ _ _ (by rw [set_other (by omega), World.cell?_drew, hu3]; rfl)
    · rw [set_other (by omega), set_other (by omega), World.cell?_drew]; exact h105
  · exact (do_done ⟨X, 102, none⟩ 1 (by decide) _ w h1).mono fun e w' hh => by
      obtain ⟨rfl, rfl⟩ := hh
      exact ⟨rfl, Kx.refl h, h1⟩

set_option maxRecDepth 100000 in
set_option maxHeartbeats 4000000 in
/-- A distance of the survey. -/
theorem distance_any (X M x y : Nat) (L : List Ed) (w : World) (h : Sv w X M L) (hx : x < M) (hy : y < M) :
    Calls Tryz.prog 83 #[.pointer (some ⟨X, 0, none⟩), .int .i64 (x : Int), .int .i64 (y : Int)] w fun e w' => e = .returned (.int .i64 (dsT (M : Int) L (x : Int) (y : Int))) ∧ Kx X M L w w' ∧ Meas X w' := by
  have HD := Lib.hid (do_any X M L w h)
  clear h
  go_enter Tryz.func83, Tryz.ntmps83
  go_wp2_with fail
  go_at_call 102
  refine HD.out.mono ?_
  rintro e w1 ⟨rfl, hb, h1⟩
  have hst := hb.sv.st
  rcases hst with ⟨h0, _⟩ | ⟨_, v, h5, hD⟩
  · unfold Meas at h1; rw [h1] at h0; cases h0
  obtain ⟨g, c, rfl, g1, g2, g3⟩ := hD
  obtain ⟨gx, cx, e1, e2, e3, e4⟩ := g3 x hx
  have e5 := e4 y hy
  have HB := Lib.hid hb
  have HM := Lib.hid h1
  have p0 : (0 : Int) ≤ (x : Int) := by omega
  have p1 : (x : Int) < (M : Int) := by omega
  have p2 : (0 : Int) ≤ (y : Int) := by omega
  have p3 : (y : Int) < (M : Int) := by omega
  clear g3 e4 hb h1 HD
  go_wp2
  go_ret
  exact ⟨rfl, HB.out, HM.out⟩

set_option maxRecDepth 100000 in
set_option maxHeartbeats 4000000 in
/-- Whether there is an edge. -/
theorem neighbors_any (X M x y : Nat) (L : List Ed) (w : World) (h : Sv w X M L) (hx : x < M) (hy : y < M) :
    Calls Tryz.prog 76 #[.pointer (some ⟨X, 0, none⟩), .int .i64 (x : Int), .int .i64 (y : Int)] w fun e w' => e = .returned (.bool (nearB L (x : Int) (y : Int))) ∧ w' = w := by
  have hM := h.M
  have hc := h.ct x y (by omega) (by omega)
  have p0 : (0 : Int) ≤ (x : Int) := by omega
  have p1 : (x : Int) < 10 := by omega
  have p2 : (0 : Int) ≤ (y : Int) := by omega
  have p3 : (y : Int) < 10 := by omega
  obtain ⟨q, hq⟩ : ∃ q, q = cst L (x : Int) (y : Int) := ⟨_, rfl⟩
  rw [← hq] at hc
  have e : nearB L (x : Int) (y : Int) = (q != 1000000) := by
    unfold nearB
    rw [← hq, far_val]
    by_cases h : q = 1000000 <;> simp [h]
  rw [e]
  clear hq e h hM
  go_enter Tryz.func76, Tryz.ntmps76
  go_wp2
  go_ret
  exact ⟨rfl, rfl⟩

set_option maxRecDepth 100000 in
set_option maxHeartbeats 4000000 in
theorem avoids_any (X M x y d : Nat) (L : List Ed) (w : World) (h : Sv w X M L) (hx : x < M) (hy : y < M) (hd : d < M) :
    Calls Tryz.prog 58 #[.pointer (some ⟨X, 0, none⟩), .int .i64 (x : Int), .int .i64 (y : Int), .int .i64 (d : Int)] w fun e w' => e = .returned (.bool (avB (M : Int) L (x : Int) (y : Int) (d : Int))) ∧ Kx X M L w w' ∧ Meas X w' := by
  have hG := h.ok
  have H := Lib.hid h
  have h1 := dsT_in hG hx (y : Int)
  have h2 := dsT_in hG hy (d : Int)
  have D1 := Lib.hid (fun w h => distance_any X M x y L w h hx hy)
  have D2 := Lib.hid (fun w h => distance_any X M y d L w h hy hd)
  have D3 := Lib.hid (fun w h => distance_any X M x d L w h hx hd)
  obtain ⟨p, hp⟩ : ∃ p, p = dsT (M : Int) L (x : Int) (y : Int) := ⟨_, rfl⟩
  obtain ⟨q, hq⟩ : ∃ p, p = dsT (M : Int) L (y : Int) (d : Int) := ⟨_, rfl⟩
  obtain ⟨r, hr⟩ : ∃ p, p = dsT (M : Int) L (x : Int) (d : Int) := ⟨_, rfl⟩
  have e : avB (M : Int) L (x : Int) (y : Int) (d : Int) = (decide (p + q < 1000000) && decide (r < p + q)) := by
    unfold avB
    rw [hp, hq, hr, far_val]
  rw [e]
  rw [← hp] at h1 D1
  rw [← hq] at h2 D2
  rw [← hr] at D3
  have wr : wrap64 (p + q) = p + q := by unfold wrap64; omega
  clear e hp hq hr hG h hx hy hd
  go_enter Tryz.func58, Tryz.ntmps58
  go_wp2_with fail
  go_at_call 83
  refine (D1.out _ H.out).mono ?_
  rintro e w1 ⟨rfl, b1, -⟩
  have B1 := Lib.hid b1
  have hX := H.out.lt
  clear b1
  go_wp2_with fail
  go_at_call 83
  refine (D2.out _ B1.out.sv).mono ?_
  rintro e w2 ⟨rfl, b2, m2⟩
  have B2 := Lib.hid (B1.out.trans hX b2)
  have M2 := Lib.hid m2
  clear b2 m2 B1
  by_cases hc : p + q < 1000000
  · have e1 : decide (p + q < 1000000) = true := decide_eq_true hc
    go_wp2_with fail
    go_at_call 83
    refine (D3.out _ B2.out.sv).mono ?_
    rintro e w3 ⟨rfl, b3, m3⟩
    have B3 := Lib.hid (B2.out.trans hX b3)
    have M3 := Lib.hid m3
    clear b3 m3 B2 M2
    go_wp2
    go_ret
    exact ⟨by rw [e1]; rfl, B3.out, M3.out⟩
  · have e1 : decide (p + q < 1000000) = false := decide_eq_false hc
    go_wp2
    go_ret
    exact ⟨by rw [e1]; rfl, B2.out, M2.out⟩

set_option maxRecDepth 100000 in
set_option maxHeartbeats 4000000 in
theorem loopFree_any (X M s n d : Nat) (L : List Ed) (w : World) (h : Sv w X M L) (hs : s < M) (hn : n < M) (hd : d < M) :
    Calls Tryz.prog 48 #[.pointer (some ⟨X, 0, none⟩), .int .i64 (s : Int), .int .i64 (n : Int), .int .i64 (d : Int)] w fun e w' => e = .returned (.bool (lfB (M : Int) L (s : Int) (n : Int) (d : Int))) ∧ Kx X M L w w' ∧ (lfB (M : Int) L (s : Int) (n : Int) (d : Int) = true → Meas X w') := by
  have H := Lib.hid h
  have D1 := Lib.hid (neighbors_any X M s n L w h hs hn)
  have D2 := Lib.hid (avoids_any X M n s d L w h hn hs hd)
  unfold lfB
  generalize avB (M : Int) L (n : Int) (s : Int) (d : Int) = r at *
  generalize nearB L (s : Int) (n : Int) = p at *
  clear h hs hn hd
  go_enter Tryz.func48, Tryz.ntmps48
  go_wp2_with fail
  go_at_call 76
  refine (D1.out).mono ?_
  rintro e w1 ⟨rfl, rfl⟩
  cases p with
  | false =>
    go_wp2
    go_ret
    exact ⟨rfl, Kx.refl H.out, fun h => by cases h⟩
  | true =>
    go_wp2_with fail
    go_at_call 58
    refine (D2.out).mono ?_
    rintro e w2 ⟨rfl, b2, m2⟩
    have B2 := Lib.hid b2
    have M2 := Lib.hid m2
    clear b2 m2
    go_wp2
    go_ret
    exact ⟨by simp, B2.out, fun _ => M2.out⟩

end Go.Proofs.YtnpdbieadjgghaaGreat
