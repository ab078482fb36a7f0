/- A histogram becomes that of one value; a new one. -/
import Derived.Test.YtcchoiobdcaboaaS6
import Derived.Lib.SliceRun
import Derived.Laws.IdiomCopy
import Derived.Deep.DeepCutAuto
namespace Go.Proofs.Ytcchoiobdcaboaa
open Go.RowKit


theorem Try.zero3h : ∀ w, (zeroValue 3).run Try.prog w = .ok (.int .i64 0) w := fun _ => by kernel_rfl
theorem below_setCellsH {B : Nat} {a : World} (b : Nat) (hb : B ≤ b) : ∀ (vs : List Value) (o : Nat) {w : World}, Below B a w → Below B a (w.setCells b o vs)
  | [], _, _, h => h
  | v :: r, o, _, h => below_setCellsH b hb r (o + 1) (h.setCell (p := ⟨b, o, none⟩) hb v)
theorem Two.cells {X G : Nat} {w : World} : ∀ (vs : List Value) (o : Nat) {w' : World}, Two X G w w' → Two X G w (w'.setCells G o vs)
  | [], _, _, h => h
  | v :: r, o, _, h => Two.cells r (o + 1) (h.setG o v)
theorem HBx.clear {w : World} {X G c : Nat} {C : List Int} {s : Int} (h : HBx w X G c C s) : HBx (w.setCells G 0 (List.replicate 21 (.int .i64 0))) X G c H0 s where
  c0 := by rw [World.cell?_setCells_out _ _ _ _ _ (fun e _ => absurd e h.ne)]; exact h.c0
  c1 := by rw [World.cell?_setCells_out _ _ _ _ _ (fun e _ => absurd e h.ne)]; exact h.c1
  fx o := by rw [World.frozen?_setCells]; exact h.fx o
  cs q z hz := by
    have hq := lt_of_at hz
    rw [H0_len] at hq
    have e := World.cell?_setCells_in G (List.replicate 21 (.int .i64 0)) 0 w (fun j hj => by rw [Nat.zero_add, h.at_ (by simpa using hj)]; rfl) q (by simpa using hq)
    rw [Nat.zero_add] at e
    rw [e]
    unfold H0 at hz
    rw [List.getElem?_replicate, if_pos (by simpa using hq)] at hz
    obtain rfl := Option.some.inj hz
    rw [List.getElem_replicate]
  fg o := by rw [World.frozen?_setCells]; exact h.fg o
  len := H0_len
  lx := by have := (Two.cells (List.replicate 21 (.int .i64 0)) 0 (Two.refl X G w)).size; exact Nat.lt_of_lt_of_le h.lx this
  lg := by have := (Two.cells (List.replicate 21 (.int .i64 0)) 0 (Two.refl X G w)).size; exact Nat.lt_of_lt_of_le h.lg this
  ne := h.ne
set_option maxRecDepth 100000 in
set_option maxHeartbeats 4000000 in
theorem ibec_any (X G c : Nat) (C : List Int) (s v : Int) (w : World) (hX : HBx w X G c C s) (hv : vB v = true) :
    Calls Try.prog 49 #[.pointer (some ⟨X, 0, none⟩), .int .i64 v] w fun e w' => e = .returned (.tuple #[]) ∧ HBx w' X G c (inc H0 (bl v)) v ∧ Two X G w w' := by
  obtain ⟨zs, hzs⟩ : ∃ zs : List Value, zs = List.replicate 21 (.int .i64 0) := ⟨_, rfl⟩
  obtain ⟨v0, v1⟩ := vB_iff.1 hv
  have hb := (bl_in v0 v1).1
  have hbk := bkt_yes hv
  have hinc : inc H0 (bl v) = H0.set (bl v) 1 := by unfold inc; rw [H0_at]; rfl
  rw [hinc]
  obtain ⟨b, hbb⟩ : ∃ b, b = bl v := ⟨_, rfl⟩
  rw [← hbb] at hb hbk ⊢
  have HK := Lib.hid hbk
  have hcl : ∀ ty, (Builtin.clear_ #[24] ty #[.slice (some ⟨G, 0, none⟩) 21 c]).run Try.prog w = .ok (.tuple #[]) (w.setCells G 0 zs) := fun ty => by
    rw [hzs]
    exact Lib.run_clear_slice w 24 3 ty (.int .i64 0) Try.underlying24 Try.zero3h rfl rfl G 0 21 c (by decide) (fun j hj => by rw [Nat.zero_add, hX.at_ hj]; rfl) (fun j _ => hX.fg _)
  have H1 : Hid (HBx (w.setCells G 0 zs) X G c H0 s) := by rw [hzs]; exact hX.clear
  have T1 : Hid (Two X G w (w.setCells G 0 zs)) := Two.cells _ _ (Two.refl _ _ _)
  clear hzs
  have x0 := hX.c0
  clear hX hv hbk hbb hinc
  go_enter Try.func49, Try.ntmps49
  go_upto_region 1 with fail
  clear hcl x0
  generalize w.setCells G 0 zs = w1 at *
  have x0 := H1.out.c0
  have y0 := H1.out.at_ hb
  have y1 := H1.out.fg b
  have q0 : (0 : Int) ≤ (b : Int) := by omega
  have q1 : (b : Int) < 21 := by omega
  have H2 : Hid (HBx (w1.setCell ⟨G, b, none⟩ (.int .i64 1)) X G c (H0.set b 1) s) := H1.out.putG hb 1
  have T2 : Hid (Two X G w (w1.setCell ⟨G, b, none⟩ (.int .i64 1))) := T1.out.setG _ _
  clear H1 T1
  go_region_law (go_simp; go_at_call 26; refine (ibo_any v _).mono ?_; rw [HK.out]; rintro e w3 ⟨rfl, rfl⟩)
  all_goals
    clear x0 y0 y1
    have x1 := H2.out.c1
    have x2 := H2.out.fx 1
    have H3 : Hid (HBx ((w1.setCell ⟨G, b, none⟩ (.int .i64 1)).setCell ⟨X, 1, none⟩ (.int .i64 v)) X G c (H0.set b 1) v) := H2.out.putX v
    have T3 : Hid (Two X G w ((w1.setCell ⟨G, b, none⟩ (.int .i64 1)).setCell ⟨X, 1, none⟩ (.int .i64 v))) := T2.out.setX _ _
    clear H2 T2
    go_wp2_with fail
    go_end0
    exact ⟨rfl, H3.out.drew, T3.out.drew⟩
set_option maxRecDepth 100000 in
set_option maxHeartbeats 4000000 in
theorem inew_any (w : World) : Calls Try.prog 47 #[] w (HPost H0 0 21 w) := by
  have hmk : ∀ w : World, (Instr.makeSlice 24 (.int .i64 21) (.int .i64 21)).run Try.prog w = .ok (.slice (some ⟨w.heap.size, 0, none⟩) 21 21) (w.alloc (.cells (Array.replicate 21 (.int .i64 0)) 3)) := fun _ => by kernel_rfl
  have hrow : Hid (∀ w : World, Row 1 (w.alloc (.cells (Array.replicate 21 (.int .i64 0)) 3)) w.heap.size (w.heap.size + 1) (.slice (some ⟨w.heap.size, 0, none⟩) 21 21) 21 H0) := fun w => ⟨H0_len, .inr ⟨w.heap.size, 21, rfl, Nat.le_refl _, by omega, by omega, fun q z hz => by
    have hq := lt_of_at hz
    rw [H0_len] at hq
    rw [new_at rfl]
    unfold H0 at hz
    rw [List.getElem?_replicate, if_pos (by simpa using hq)] at hz
    obtain rfl := Option.some.inj hz
    simp [hq], fun o => new_frz rfl⟩⟩
  go_enter Try.func47, Try.ntmps47
  go_wp2_with fail
  refine bodyPost_ret (v := .agg #[.slice (some ⟨w.heap.size + 1, 0, none⟩) 21 21, .int .i64 0]) (by simp [results, Try.results47, go_sem]) rfl ⟨_, rfl, ?_, by go_grown⟩
  have h1 := hrow.out (w.alloc (.cells #[.slice (some ⟨w.heap.size + 1, 0, none⟩) 21 21, .int .i64 0] 27))
  rw [show (w.alloc (.cells #[.slice (some ⟨w.heap.size + 1, 0, none⟩) 21 21, .int .i64 0] 27)).heap.size = w.heap.size + 1 by simp] at h1
  exact h1.wide (by omega) (by simp)

end Go.Proofs.Ytcchoiobdcaboaa
