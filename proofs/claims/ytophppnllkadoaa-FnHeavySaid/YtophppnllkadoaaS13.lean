/- PlayTop, by both. -/
import Derived.Test.YtophppnllkadoaaS9
import Derived.Test.YtophppnllkadoaaS12
import Derived.Deep.DeepCutAuto
namespace Go.Proofs.Ytophppnllkadoaa
open Go.RowKit

/-- The list behind the first i additions. -/
noncomputable def plyT (A : List Ad) : Nat → List Hv
  | 0 => []
  | i + 1 => addL (plyT A i) (A.getD i (0, 0)).1 (A.getD i (0, 0)).2
theorem plyT_at {A : List Ad} {i : Nat} {k n : Int} (h : A[i]? = some (k, n)) : plyT A (i + 1) = addL (plyT A i) k n := by
  show addL _ _ _ = _
  rw [List.getD_eq_getElem?_getD, h]
  rfl
/-- Each of the first i additions goes through. -/
def PlyP (A : List Ad) (i : Nat) : Prop := ∀ (j : Nat) (k n : Int), j < i → A[j]? = some (k, n) → addB (plyT A j) k n = true
theorem PlyP.next {A : List Ad} {i : Nat} {k n : Int} (h : PlyP A i) (hr : A[i]? = some (k, n)) (hb : addB (plyT A i) k n = true) : PlyP A (i + 1) := fun j k' n' hj hr' => by
  by_cases e : j = i
  · subst e; rw [hr] at hr'; obtain ⟨rfl, rfl⟩ := Prod.mk.inj (Option.some.inj hr'); exact hb
  · exact h j k' n' (by omega) hr'
noncomputable def plyB (A : List Ad) : Bool := @decide (A.length ≤ 300 ∧ PlyP A A.length) (Classical.propDecidable _)
theorem plyB_iff {A : List Ad} : plyB A = true ↔ A.length ≤ 300 ∧ PlyP A A.length := by unfold plyB; exact @decide_eq_true_iff _ (Classical.propDecidable _)
/-- What PlayTop answers. -/
noncomputable def plyL (A : List Ad) : List Hv := if plyB A = true then plyT A A.length else []
theorem ply_no {A : List Ad} (h : ¬ (A.length ≤ 300 ∧ PlyP A A.length)) : plyB A = false ∧ plyL A = [] := by
  have : plyB A = false := by rw [Bool.eq_false_iff, ne_eq, plyB_iff]; exact h
  exact ⟨this, by unfold plyL; rw [this]; rfl⟩
theorem ply_stop {A : List Ad} {i : Nat} {k n : Int} (hr : A[i]? = some (k, n)) (hb : addB (plyT A i) k n = false) : plyB A = false ∧ plyL A = [] :=
  ply_no fun h => by
    have := h.2 i k n (lt_of_at hr) hr
    rw [hb] at this
    simp at this
theorem ply_yes {A : List Ad} (h1 : A.length ≤ 300) (h2 : PlyP A A.length) : plyB A = true ∧ plyL A = plyT A A.length := by
  have : plyB A = true := plyB_iff.2 ⟨h1, h2⟩
  exact ⟨this, by unfold plyL; rw [if_pos this]⟩
theorem plyT_top {A : List Ad} : ∀ i, i ≤ A.length → PlyP A i → TopP (plyT A i)
  | 0, _, _ => ⟨by simp [plyT], fun i r h => by simp [plyT] at h, fun i j p r _ h => by simp [plyT] at h⟩
  | i + 1, hi, h => by
    obtain ⟨k, n, hr⟩ := at2_of_lt (L := A) (i := i) (by omega)
    have hb := h i k n (by omega) hr
    rw [plyT_at hr]
    unfold addL
    rw [if_pos hb]
    unfold addB at hb
    rw [Bool.and_eq_true, Bool.and_eq_true] at hb
    exact topB_iff.1 hb.2.2
theorem plyT_len {A : List Ad} {i : Nat} (hi : i ≤ A.length) (h : PlyP A i) : (plyT A i).length ≤ 4 := (plyT_top i hi h).1
theorem plyL_len (A : List Ad) : (plyL A).length ≤ 4 := by
  unfold plyL
  split
  · rename_i h
    obtain ⟨h1, h2⟩ := plyB_iff.1 h
    exact plyT_len (Nat.le_refl _) h2
  · simp

theorem rr3_store {w w1 : World} {b0 b1 b2 o0 o1 o2 : Nat} {v0 v1 v2 : Value} (l0 : b0 < w.heap.size) (l1 : b1 < w.heap.size) (l2 : b2 < w.heap.size) {b o : Nat} {u : Value} (hb : w.heap.size ≤ b) (h : w1.cell? ⟨b0, o0, none⟩ = some v0 ∧ w1.cell? ⟨b1, o1, none⟩ = some v1 ∧ w1.cell? ⟨b2, o2, none⟩ = some v2 ∧ w.heap.size ≤ w1.heap.size ∧ Below w.heap.size w w1) :
    (w1.setCell ⟨b, o, none⟩ u).cell? ⟨b0, o0, none⟩ = some v0 ∧ (w1.setCell ⟨b, o, none⟩ u).cell? ⟨b1, o1, none⟩ = some v1 ∧ (w1.setCell ⟨b, o, none⟩ u).cell? ⟨b2, o2, none⟩ = some v2 ∧ w.heap.size ≤ (w1.setCell ⟨b, o, none⟩ u).heap.size ∧ Below w.heap.size w (w1.setCell ⟨b, o, none⟩ u) := by
  obtain ⟨h0, h1, h2, hs, hB⟩ := h
  exact ⟨by rw [World.cell?_setCell_other _ _ _ _ (by simp <;> omega)]; exact h0, by rw [World.cell?_setCell_other _ _ _ _ (by simp <;> omega)]; exact h1, by rw [World.cell?_setCell_other _ _ _ _ (by simp <;> omega)]; exact h2, by simp [World.setCell]; omega, hB.setCell (by show _ ≤ b; omega) _⟩
/-- The world of a step gets a name. -/
theorem at_world {K : Act → World → Prop} {a : Act} {W : World} (h : ∀ wa, wa = W → K a wa) : K a W := h W rfl
/-- What a region leaves that calls and boxes what the call answers. -/
def BoxR (base wx : World) (bx lo hi : Nat) (v : Value) (m : Nat) (ZR : List Int) : Prop :=
  Row 3 wx lo hi v m ZR ∧ base.heap.size ≤ lo ∧ hi ≤ wx.heap.size ∧ base.heap.size ≤ bx ∧ bx < wx.heap.size ∧ (bx < lo ∨ hi ≤ bx) ∧ wx.cell? ⟨bx, 0, none⟩ = some v ∧ Below base.heap.size base wx
theorem BoxR.mk' {base w5 wx : World} {bx lo hi m : Nat} {v u : Value} {ZR : List Int} (hw : wx = w5.setCell ⟨bx, 0, none⟩ v) (hr : Row 3 w5 lo hi v m ZR) (hlo : base.heap.size ≤ lo) (hhi : hi ≤ w5.heap.size) (h1 : base.heap.size ≤ bx) (h2 : bx < w5.heap.size) (h3 : bx < lo ∨ hi ≤ bx) (hc : w5.cell? ⟨bx, 0, none⟩ = some u) (hb : Below base.heap.size base w5) : BoxR base wx bx lo hi v m ZR := by
  subst hw
  exact ⟨hr.setCell (p := ⟨bx, 0, none⟩) h3 _, hlo, by simp [World.setCell]; omega, h1, by simp [World.setCell]; omega, h3, World.cell?_setCell_same' _ _ _ (by rw [hc]; rfl), hb.setCell h1 _⟩
/-- A list in the box X. -/
structure PSt (w3 wr : World) (X m : Nat) (v : Value) (T : List Hv) : Prop where
  below : Below X w3 wr
  lt : X < w3.heap.size
  frz : wr.frozen? ⟨X, 0, none⟩ = false
  cel : wr.cell? ⟨X, 0, none⟩ = some v
  row : Row 3 wr (X + 1) wr.heap.size v m (flat T)
  len : T.length = m
theorem PSt.size {w3 wr : World} {X m : Nat} {v : Value} {T : List Hv} (s : PSt w3 wr X m v T) : X < wr.heap.size := Nat.lt_of_lt_of_le s.lt s.below.size
theorem PSt.keep {w3 wr : World} {X m : Nat} {v : Value} {T : List Hv} {b o : Nat} {u : Value} (s : PSt w3 wr X m v T) (hb : b < X) (hc : w3.cell? ⟨b, o, none⟩ = some u) : wr.cell? ⟨b, o, none⟩ = some u := by rw [s.below.cell (p := ⟨b, o, none⟩) hb]; exact hc
theorem PSt.keepf {w3 wr : World} {X m : Nat} {v : Value} {T : List Hv} {b o : Nat} (s : PSt w3 wr X m v T) (hb : b < X) (hc : w3.frozen? ⟨b, o, none⟩ = false) : wr.frozen? ⟨b, o, none⟩ = false := by rw [s.below.frozen (p := ⟨b, o, none⟩) hb]; exact hc
/-- The box takes another list, which lies above it. -/
theorem PSt.put {w3 wr wx : World} {X m m' lo hi : Nat} {v v' : Value} {T T' : List Hv} (s : PSt w3 wr X m v T) (hb : Below wr.heap.size wr wx) (hr : Row 3 wx lo hi v' m' (flat T')) (hl : wr.heap.size ≤ lo) (hh : hi ≤ wx.heap.size) (hn : T'.length = m') : PSt w3 (wx.setCell ⟨X, 0, none⟩ v') X m' v' T' := by
  have hs := s.size
  refine ⟨(s.below.trans (hb.mono (by omega))).setCell (Nat.le_refl _) _, s.lt, ?_, ?_, ?_, hn⟩
  · rw [World.frozen?_setCell, hb.frozen (p := ⟨X, 0, none⟩) hs]; exact s.frz
  · exact World.cell?_setCell_same' _ _ _ (by rw [hb.cell (p := ⟨X, 0, none⟩) hs, s.cel]; rfl)
  · exact (hr.setCell (p := ⟨X, 0, none⟩) (.inl (by show X < lo; omega)) _).wide (by omega) (by simp [World.setCell]; omega)
theorem PSt.start {w3 : World} {X : Nat} (hX : X < w3.heap.size) (hf : w3.frozen? ⟨X, 0, none⟩ = false) (hc : w3.cell? ⟨X, 0, none⟩ = some (.slice none 0 0)) : PSt w3 w3 X 0 (.slice none 0 0) [] :=
  ⟨Below.refl _ _, hX, hf, hc, ⟨rfl, .inl ⟨rfl, none, 0, rfl⟩⟩, rfl⟩

set_option maxRecDepth 100000 in
set_option maxHeartbeats 4000000 in
theorem splay_any (lo hi n : Nat) (v : Value) (A : List Ad) (w : World) (hA : A.length = n) (hr : Row 2 w lo hi v n (flat2 A)) (hh : hi ≤ w.heap.size) : Calls Try.prog 22 #[v] w (TabBPost (plyL A) (plyB A) w) := by
  obtain ⟨ad, cp, rfl, hn, hop⟩ := hr.opened
  have HA := Lib.hid hA
  have H := Lib.hid hop
  clear hA hr hop
  by_cases h300 : n ≤ 300
  case neg =>
    have hx : (300 : Int) < (n : Int) := by omega
    have hw1 : (w.alloc (.cells #[.slice none 0 0] 38)).cell? ⟨w.heap.size, 0, none⟩ = some (.slice none 0 0) := by rw [new_at rfl]; rfl
    obtain ⟨e2, e1⟩ := ply_no (A := A) (fun h => by rw [HA.out] at h; omega)
    have E1 := Lib.hid e1
    have E2 := Lib.hid e2
    clear e1 e2
    go_enter Try.func22, Try.ntmps22
    go_wp2_with fail
    refine bodyPost_ret (v := .tuple #[.agg #[.slice none 0 0], .bool false]) (by simp [results, Try.results22, go_sem]) rfl ⟨_, by rw [E2.out], ?_, ?_⟩
    · rw [E1.out]; exact ⟨rfl, .inl ⟨rfl, none, 0, rfl⟩⟩
    · go_grown
  case pos =>
  have hx : ¬ (300 : Int) < (n : Int) := by omega
  go_enter Try.func22, Try.ntmps22
  go_wp2_with fail
  obtain ⟨q11, hq11⟩ : ∃ q, q = ((w.alloc (.cells #[.slice none 0 0] 38)).alloc (.cells #[.slice none 0 0] 38)) := ⟨_, rfl⟩
  have hb11 : Below w.heap.size w q11 := by rw [hq11]; go_grown
  have sz11 : w.heap.size + 2 ≤ q11.heap.size := by rw [hq11]; simp
  have c11_0 : q11.cell? ⟨w.heap.size, 0, none⟩ = some (.slice none 0 0) := by rw [hq11, old_box (by simp <;> omega), new_at (by simp)]; rfl
  have c11_1 : q11.cell? ⟨w.heap.size + 1, 0, none⟩ = some (.slice none 0 0) := by rw [hq11, new_at (by simp)]; rfl
  have g11_0 : q11.frozen? ⟨w.heap.size, 0, none⟩ = false := by rw [hq11, old_frz (by simp <;> omega), new_frz (by simp)]
  have g11_1 : q11.frozen? ⟨w.heap.size + 1, 0, none⟩ = false := by rw [hq11, new_frz (by simp)]
  have B11 : Hid (Below w.heap.size w q11) := Lib.hid hb11
  rw [← hq11]
  have d11_0 : w.heap.size < q11.heap.size := by omega
  have e11_0 : w.heap.size ≠ q11.heap.size := by omega
  have d11_1 : w.heap.size + 1 < q11.heap.size := by omega
  have e11_1 : w.heap.size + 1 ≠ q11.heap.size := by omega
  clear hq11 hb11
  have HC : Hid (q11.cell? ⟨w.heap.size, 0, none⟩ = some (.slice none 0 0)) := c11_0
  have HJ : Hid (q11.frozen? ⟨w.heap.size, 0, none⟩ = false) := g11_0
  obtain ⟨X, hX⟩ : ∃ X, X = w.heap.size + 1 := ⟨_, rfl⟩
  have HS0 : Hid (PSt q11 q11 X 0 (.slice none 0 0) (plyT A 0)) := by rw [hX]; exact PSt.start (by omega) g11_1 c11_1
  rw [← hX]
  have hRX : w.heap.size < X := by omega
  have hwX : w.heap.size + 1 ≤ X := by omega
  clear hX c11_0 g11_0 c11_1 g11_1
  go_loopw [5] (fun i wr => ∃ (k m : Nat) (v : Value), k ≤ n ∧ i = .int .i64 (k : Int) ∧ Hid (PSt q11 wr X m v (plyT A k)) ∧ Hid (PlyP A k)) (fun i _ => n - (intOf i).toNat)
  case atStart => exact ⟨0, 0, _, Nat.zero_le _, rfl, HS0, fun j k n hj => absurd hj (Nat.not_lt_zero _)⟩
  case round =>
    clear HS0
    obtain ⟨wo, rfl⟩ : ∃ x, x = wr := ⟨_, rfl⟩
    obtain ⟨k, m, v, hk, rfl, hS, hP⟩ := hrel
    obtain ⟨va, vc, rfl⟩ := hS.out.row.slice
    have hxc := hS.out.cel
    have hxf := hS.out.frz
    have hxs := hS.out.size
    have hb0 := hS.out.below.size
    have krc : wo.cell? ⟨w.heap.size, 0, none⟩ = some (.slice none 0 0) := hS.out.keep (by omega) HC.out
    have krf : wo.frozen? ⟨w.heap.size, 0, none⟩ = false := hS.out.keepf (by omega) HJ.out
    have HBW : Hid (Below w.heap.size w wo) := B11.out.trans (hS.out.below.mono (by omega))
    have nRX : w.heap.size ≠ X := by omega
    have hm4 : m ≤ 4 := by rw [← hS.out.len]; exact plyT_len (by rw [HA.out]; exact hk) hP.out
    by_cases hlt : k < n
    case neg =>
      obtain rfl : k = n := by omega
      have hge : ¬ ((k : Int) < (k : Int)) := by omega
      have hAk : A.length = k := HA.out
      obtain ⟨e2, e1⟩ := ply_yes (A := A) (by omega) (by rw [hAk]; exact hP.out)
      rw [hAk] at e1
      have E1 := Lib.hid e1
      have E2 := Lib.hid e2
      have HLen := Lib.hid hS.out.len
      have Hrow := Lib.hid ((hS.out.row.setCell (p := ⟨w.heap.size, 0, none⟩) (.inl (by show w.heap.size < X + 1; omega)) (.slice va m vc)).wide (lo' := w.heap.size) (hi' := (wo.setCell ⟨w.heap.size, 0, none⟩ (.slice va m vc)).heap.size) (by omega) (by simp [World.setCell]))
      have r0 : (wo.setCell ⟨w.heap.size, 0, none⟩ (.slice va m vc)).cell? ⟨w.heap.size, 0, none⟩ = some (.slice va m vc) := World.cell?_setCell_same' _ _ _ (by rw [krc]; rfl)
      clear e1 e2 hS
      go_wp2_with fail
      refine bodyPost_ret (v := .tuple #[.agg #[.slice va m vc], .bool true]) (by simp [results, Try.results22, go_sem, r0]) rfl ⟨_, by rw [E2.out], ?_, ?_⟩
      · rw [E1.out, HLen.out]; exact Hrow.out
      · exact HBW.out.setCell (by show _ ≤ w.heap.size; omega) _
    case pos =>
    obtain ⟨g, rfl, hg, hz⟩ := H.out (by omega)
    clear H
    obtain ⟨a, c, hrk⟩ := at2_of_lt (L := A) (i := k) (by rw [HA.out]; exact hlt)
    obtain ⟨r0, r1⟩ := flat2_at A k _ hrk
    have hgs : g < wo.heap.size := by have := HBW.out.size; omega
    have z0 : wo.cell? ⟨g, k * 2, none⟩ = some (.int .i64 a) := by rw [HBW.out.cell (p := ⟨g, k * 2, none⟩) (by show g < _; omega)]; exact hz _ _ r0
    have z1 : wo.cell? ⟨g, k * 2 + 1, none⟩ = some (.int .i64 c) := by rw [HBW.out.cell (p := ⟨g, k * 2 + 1, none⟩) (by show g < _; omega)]; exact hz _ _ r1
    have HK := Lib.hid hrk
    have q0 : (0 : Int) ≤ (k : Int) := by omega
    have q1 : (k : Int) < (n : Int) := by omega
    have hTN := Lib.hid (plyT_at hrk)
    obtain ⟨m', hm'⟩ : ∃ m', m' = (addL (plyT A k) a c).length := ⟨_, rfl⟩
    have HM' := Lib.hid hm'
    have HT := Lib.hid hS.out.len
    clear r0 r1 hrk hz hm'
    go_upto_region 7 with fail
    go_cut [6, 7] (fun s6 s7 wx => ∃ (bx lo hi : Nat) (va : Option Addr) (vc : Nat), s6 = .pointer (some ⟨bx, 0, none⟩) ∧ s7 = .bool (addB (plyT A k) a c) ∧ Hid (BoxR wo wx bx lo hi (.slice va m' vc) m' (flat (addL (plyT A k) a c))))
    case first =>
      go_wp2_with fail
      refine wp_region_held_drew (S := (fun w' => w'.cell? ⟨X, 0, none⟩ = some (.slice va m vc) ∧ w'.cell? ⟨g, k * 2, none⟩ = some (.int .i64 a) ∧ w'.cell? ⟨g, k * 2 + 1, none⟩ = some (.int .i64 c) ∧ wo.heap.size ≤ w'.heap.size ∧ Below wo.heap.size wo w')) (by kernel_rfl) ?_ (fun hHeld => ?_)
      · (first | assumption | exact rr3_start hxc z0 z1 | exact rr3_drew (by assumption) | exact rr3_keep (by omega) (by omega) (by omega) hb (by assumption) | exact rr3_store (by omega) (by omega) (by omega) (by omega) (by assumption) | fail)
      refine step_read 0 20 rfl rfl (by kernel_rfl) (by kernel_rfl) (by kernel_rfl) (fun _ _ _ h => h) (by rfl) (v := ?_) (fun w hSw => ?_) (by assumption) ?_; rotate_left; (focus ((try dsimp only at hSw); go_simp; first | done | exact rfl)); simp only [List.set]
      refine step_read 1 21 rfl rfl (by kernel_rfl) (by kernel_rfl) (by kernel_rfl) (fun _ _ _ h => h) (by rfl) (v := ?_) (fun w hSw => ?_) (by assumption) ?_; rotate_left; (focus ((try dsimp only at hSw); go_simp; first | done | exact rfl)); simp only [List.set]
      refine step_read 2 22 rfl rfl (by kernel_rfl) (by kernel_rfl) (by kernel_rfl) (fun _ _ _ h => h) (by rfl) (v := ?_) (fun w hSw => ?_) (by assumption) ?_; rotate_left; (focus ((try dsimp only at hSw); go_simp; first | done | exact rfl)); simp only [List.set]
      refine step_read 3 23 rfl rfl (by kernel_rfl) (by kernel_rfl) (by kernel_rfl) (fun _ _ _ h => h) (by rfl) (v := ?_) (fun w hSw => ?_) (by assumption) ?_; rotate_left; (focus ((try dsimp only at hSw); go_simp; first | done | exact rfl)); simp only [List.set]
      refine step_read 4 24 rfl rfl (by kernel_rfl) (by kernel_rfl) (by kernel_rfl) (fun _ _ _ h => h) (by rfl) (v := ?_) (fun w hSw => ?_) (by assumption) ?_; rotate_left; (focus ((try dsimp only at hSw); go_simp; first | done | exact rfl)); simp only [List.set]
      refine step_read 5 25 rfl rfl (by kernel_rfl) (by kernel_rfl) (by kernel_rfl) (fun _ _ _ h => h) (by rfl) (v := ?_) (fun w hSw => ?_) (by assumption) ?_; rotate_left; (focus ((try dsimp only at hSw); go_simp; first | done | exact rfl)); simp only [List.set]
      refine step_read 6 26 rfl rfl (by kernel_rfl) (by kernel_rfl) (by kernel_rfl) (fun _ _ _ h => h) (by rfl) (v := ?_) (fun w hSw => ?_) (by assumption) ?_; rotate_left; (focus ((try dsimp only at hSw); go_simp; first | done | exact rfl)); simp only [List.set]
      refine step_read 7 27 rfl rfl (by kernel_rfl) (by kernel_rfl) (by kernel_rfl) (fun _ _ _ h => h) (by rfl) (v := ?_) (fun w hSw => ?_) (by assumption) ?_; rotate_left; (focus ((try dsimp only at hSw); go_simp; first | done | exact rfl)); simp only [List.set]
      refine step_read 8 28 rfl rfl (by kernel_rfl) (by kernel_rfl) (by kernel_rfl) (fun _ _ _ h => h) (by rfl) (v := ?_) (fun w hSw => ?_) (by assumption) ?_; rotate_left; (focus ((try dsimp only at hSw); go_simp; first | done | exact rfl)); simp only [List.set]
      refine step_read 9 29 rfl rfl (by kernel_rfl) (by kernel_rfl) (by kernel_rfl) (fun _ _ _ h => h) (by rfl) (v := ?_) (fun w hSw => ?_) (by assumption) ?_; rotate_left; (focus ((try dsimp only at hSw); go_simp; first | done | exact rfl)); simp only [List.set]
      refine step_read 10 30 rfl rfl (by kernel_rfl) (by kernel_rfl) (by kernel_rfl) (fun _ _ _ h => h) (by rfl) (v := ?_) (fun w hSw => ?_) (by assumption) ?_; rotate_left; (focus ((try dsimp only at hSw); go_simp; first | done | exact rfl)); simp only [List.set]
      refine wpAnyH_ready (rs := [11, 15]) (by kernel_rfl) (by simp) ?_
      refine AllReadyH.cons rfl (fun Kc hK => ?_) (AllReadyH.cons rfl (fun Kc hK => ?_) (AllReadyH.nil))
      · go_simp
        go_at_call 44
        refine (sadd_any (X + 1) wo.heap.size m _ (plyT A k) a c _ HT.out (hS.out.row.below (rr3_out (by assumption)).2 (Nat.le_refl _)) (by have hq := (rr3_out (by assumption)).1; omega)).mono ?_
        rintro e wr1 ⟨qv, rfl, rq, hb⟩
        have hzz := hb.size
        rw [← HM'.out] at rq
        obtain ⟨qa, qc, rfl⟩ := rq.slice
        refine hK.out _ _ ?_ (fun hHeld => ?_)
        · (first | assumption | exact rr3_start hxc z0 z1 | exact rr3_drew (by assumption) | exact rr3_keep (by omega) (by omega) (by omega) hb (by assumption) | exact rr3_store (by omega) (by omega) (by omega) (by omega) (by assumption) | fail)
        clear hK Kc
        refine step_read 12 19 rfl rfl (by kernel_rfl) (by kernel_rfl) (by kernel_rfl) (fun _ _ _ h => h) (by rfl) (v := ?_) (fun w hSw => ?_) (by assumption) ?_; rotate_left; (focus ((try dsimp only at hSw); go_simp; first | done | exact rfl)); simp only [List.set]
        refine step_read 13 32 rfl rfl (by kernel_rfl) (by kernel_rfl) (by kernel_rfl) (fun _ _ _ h => h) (by rfl) (v := ?_) (fun w hSw => ?_) (by assumption) ?_; rotate_left; (focus ((try dsimp only at hSw); go_simp; first | done | exact rfl)); simp only [List.set]
        refine step_read 14 33 rfl rfl (by kernel_rfl) (by kernel_rfl) (by kernel_rfl) (fun _ _ _ h => h) (by rfl) (v := ?_) (fun w hSw => ?_) (by assumption) ?_; rotate_left; (focus ((try dsimp only at hSw); go_simp; first | done | exact rfl)); simp only [List.set]
        refine wpAnyH_ready (rs := [15]) (by kernel_rfl) (by simp) ?_
        refine AllReadyH.cons rfl (fun Kc hK => ?_) (AllReadyH.nil)
        go_simp
        refine at_world (fun wa2 hwa => ?_)
        have hb : Below wr1.heap.size wr1 wa2 := by rw [hwa]; exact (Below.refl _ _).alloc (Nat.le_refl _) _
        have bc : wa2.cell? ⟨wr1.heap.size, 0, none⟩ = some (.slice none 0 0) := by rw [hwa]; simp
        have bf : wa2.frozen? ⟨wr1.heap.size, 0, none⟩ = false := by rw [hwa]; simp [go_sem]
        have hbz : wr1.heap.size < wa2.heap.size := by rw [hwa]; simp
        have hzz := hb.size
        replace rq := rq.below hb (by first | exact Nat.le_refl _ | omega)
        have hbb : wo.heap.size ≤ wr1.heap.size := by first | exact Nat.le_refl _ | (have hq := (rr3_out (by assumption)).1; omega)
        have hSn :  wa2.cell? ⟨X, 0, none⟩ = some (.slice va m vc) ∧ wa2.cell? ⟨g, k * 2, none⟩ = some (.int .i64 a) ∧ wa2.cell? ⟨g, k * 2 + 1, none⟩ = some (.int .i64 c) ∧ wo.heap.size ≤ wa2.heap.size ∧ Below wo.heap.size wo wa2 := by rw [hwa]; first | exact rr3_drew (rr3_box (by omega) (by omega) (by omega) HSB) | exact rr3_box (by omega) (by omega) (by omega) (by assumption)
        clear hwa
        refine hK.out _ _ ?_ (fun hHeld => ?_)
        · (first | assumption | exact rr3_start hxc z0 z1 | exact rr3_drew (by assumption) | exact rr3_keep (by omega) (by omega) (by omega) hb (by assumption) | exact rr3_store (by omega) (by omega) (by omega) (by omega) (by assumption) | fail)
        clear hK Kc
        refine wpAnyH_ready (rs := [16]) (by kernel_rfl) (by simp) ?_
        refine AllReadyH.cons rfl (fun Kc hK => ?_) (AllReadyH.nil)
        go_simp
        refine at_world (fun ws3 hwa => ?_)
        have hBR := BoxR.mk' hwa rq (base := wo) (by have hq := (rr3_out (by assumption)).1; omega) (by omega) hbb (by omega) (by omega) bc (rr3_out (by assumption)).2
        have hSn :  ws3.cell? ⟨X, 0, none⟩ = some (.slice va m vc) ∧ ws3.cell? ⟨g, k * 2, none⟩ = some (.int .i64 a) ∧ ws3.cell? ⟨g, k * 2 + 1, none⟩ = some (.int .i64 c) ∧ wo.heap.size ≤ ws3.heap.size ∧ Below wo.heap.size wo ws3 := by rw [hwa]; exact rr3_store (by omega) (by omega) (by omega) hbb (by assumption)
        clear hwa
        refine hK.out _ _ ?_ (fun hHeld => ?_)
        · (first | assumption | exact rr3_start hxc z0 z1 | exact rr3_drew (by assumption) | exact rr3_keep (by omega) (by omega) (by omega) hb (by assumption) | exact rr3_store (by omega) (by omega) (by omega) (by omega) (by assumption) | fail)
        clear hK Kc
        refine step_read 17 7 rfl rfl (by kernel_rfl) (by kernel_rfl) (by kernel_rfl) (fun _ _ _ h => h) (by rfl) (v := ?_) (fun w hSw => ?_) (by assumption) ?_; rotate_left; (focus ((try dsimp only at hSw); go_simp; first | done | exact rfl)); simp only [List.set]
        refine wpAnyH_done (by kernel_rfl) ?_ _
        go_wp2_with fail
        go_meet
        exact ⟨_, _, _, _, _, rfl, rfl, Lib.hid hBR⟩
      · go_simp
        refine at_world (fun wa4 hwa => ?_)
        have hb : Below wo.heap.size wo wa4 := by rw [hwa]; first | exact ((Below.refl _ _).alloc (Nat.le_refl _) _).drew | exact (Below.refl _ _).drew.alloc (by first | exact Nat.le_refl _ | simp) _
        have HSB := (⟨hxc, z0, z1, Nat.le_refl _, Below.refl _ _⟩ :  wo.cell? ⟨X, 0, none⟩ = some (.slice va m vc) ∧ wo.cell? ⟨g, k * 2, none⟩ = some (.int .i64 a) ∧ wo.cell? ⟨g, k * 2 + 1, none⟩ = some (.int .i64 c) ∧ wo.heap.size ≤ wo.heap.size ∧ Below wo.heap.size wo wo)
        have bc : wa4.cell? ⟨wo.heap.size, 0, none⟩ = some (.slice none 0 0) := by rw [hwa]; simp
        have bf : wa4.frozen? ⟨wo.heap.size, 0, none⟩ = false := by rw [hwa]; simp [go_sem]
        have hbz : wo.heap.size < wa4.heap.size := by rw [hwa]; simp
        have hzz := hb.size
        have hbb : wo.heap.size ≤ wo.heap.size := by first | exact Nat.le_refl _ | (have hq := (rr3_out (by assumption)).1; omega)
        have hSn :  wa4.cell? ⟨X, 0, none⟩ = some (.slice va m vc) ∧ wa4.cell? ⟨g, k * 2, none⟩ = some (.int .i64 a) ∧ wa4.cell? ⟨g, k * 2 + 1, none⟩ = some (.int .i64 c) ∧ wo.heap.size ≤ wa4.heap.size ∧ Below wo.heap.size wo wa4 := by rw [hwa]; first | exact rr3_drew (rr3_box (by omega) (by omega) (by omega) HSB) | exact rr3_box (by omega) (by omega) (by omega) (by assumption)
        clear hwa
        clear HSB
        refine hK.out _ _ ?_ (fun hHeld => ?_)
        · (first | assumption | exact rr3_start hxc z0 z1 | exact rr3_drew (by assumption) | exact rr3_keep (by omega) (by omega) (by omega) hb (by assumption) | exact rr3_store (by omega) (by omega) (by omega) (by omega) (by assumption) | fail)
        clear hK Kc
        refine wpAnyH_ready (rs := [11]) (by kernel_rfl) (by simp) ?_
        refine AllReadyH.cons rfl (fun Kc hK => ?_) (AllReadyH.nil)
        go_simp
        go_at_call 44
        refine (sadd_any (X + 1) wo.heap.size m _ (plyT A k) a c _ HT.out (hS.out.row.below (rr3_out (by assumption)).2 (Nat.le_refl _)) (by have hq := (rr3_out (by assumption)).1; omega)).mono ?_
        rintro e wr5 ⟨qv, rfl, rq, hb⟩
        have hzz := hb.size
        rw [← HM'.out] at rq
        obtain ⟨qa, qc, rfl⟩ := rq.slice
        have hbz0 := hbz
        replace bc : wr5.cell? ⟨wo.heap.size, 0, none⟩ = some (.slice none 0 0) := by rw [hb.cell (p := ⟨wo.heap.size, 0, none⟩) hbz]; exact bc
        replace bf : wr5.frozen? ⟨wo.heap.size, 0, none⟩ = false := by rw [hb.frozen (p := ⟨wo.heap.size, 0, none⟩) hbz]; exact bf
        replace hbz : wo.heap.size < wr5.heap.size := Nat.lt_of_lt_of_le hbz hb.size
        refine hK.out _ _ ?_ (fun hHeld => ?_)
        · (first | assumption | exact rr3_start hxc z0 z1 | exact rr3_drew (by assumption) | exact rr3_keep (by omega) (by omega) (by omega) hb (by assumption) | exact rr3_store (by omega) (by omega) (by omega) (by omega) (by assumption) | fail)
        clear hK Kc
        refine step_read 12 19 rfl rfl (by kernel_rfl) (by kernel_rfl) (by kernel_rfl) (fun _ _ _ h => h) (by rfl) (v := ?_) (fun w hSw => ?_) (by assumption) ?_; rotate_left; (focus ((try dsimp only at hSw); go_simp; first | done | exact rfl)); simp only [List.set]
        refine step_read 13 32 rfl rfl (by kernel_rfl) (by kernel_rfl) (by kernel_rfl) (fun _ _ _ h => h) (by rfl) (v := ?_) (fun w hSw => ?_) (by assumption) ?_; rotate_left; (focus ((try dsimp only at hSw); go_simp; first | done | exact rfl)); simp only [List.set]
        refine step_read 14 33 rfl rfl (by kernel_rfl) (by kernel_rfl) (by kernel_rfl) (fun _ _ _ h => h) (by rfl) (v := ?_) (fun w hSw => ?_) (by assumption) ?_; rotate_left; (focus ((try dsimp only at hSw); go_simp; first | done | exact rfl)); simp only [List.set]
        refine wpAnyH_ready (rs := [16]) (by kernel_rfl) (by simp) ?_
        refine AllReadyH.cons rfl (fun Kc hK => ?_) (AllReadyH.nil)
        go_simp
        refine at_world (fun ws6 hwa => ?_)
        have hBR := BoxR.mk' hwa rq (base := wo) (by have hq := (rr3_out (by assumption)).1; omega) (by omega) hbb (by omega) (by omega) bc (rr3_out (by assumption)).2
        have hSn :  ws6.cell? ⟨X, 0, none⟩ = some (.slice va m vc) ∧ ws6.cell? ⟨g, k * 2, none⟩ = some (.int .i64 a) ∧ ws6.cell? ⟨g, k * 2 + 1, none⟩ = some (.int .i64 c) ∧ wo.heap.size ≤ ws6.heap.size ∧ Below wo.heap.size wo ws6 := by rw [hwa]; exact rr3_store (by omega) (by omega) (by omega) hbb (by assumption)
        clear hwa
        refine hK.out _ _ ?_ (fun hHeld => ?_)
        · (first | assumption | exact rr3_start hxc z0 z1 | exact rr3_drew (by assumption) | exact rr3_keep (by omega) (by omega) (by omega) hb (by assumption) | exact rr3_store (by omega) (by omega) (by omega) (by omega) (by assumption) | fail)
        clear hK Kc
        refine step_read 17 7 rfl rfl (by kernel_rfl) (by kernel_rfl) (by kernel_rfl) (fun _ _ _ h => h) (by rfl) (v := ?_) (fun w hSw => ?_) (by assumption) ?_; rotate_left; (focus ((try dsimp only at hSw); go_simp; first | done | exact rfl)); simp only [List.set]
        refine wpAnyH_done (by kernel_rfl) ?_ _
        go_wp2_with fail
        go_meet
        exact ⟨_, _, _, _, _, rfl, rfl, Lib.hid hBR⟩
    case rest =>
      obtain ⟨bx, lo1, hi1, ya, yc, rfl, rfl, hBR⟩ := hcut
      obtain ⟨wx, rfl⟩ : ∃ x, x = wc := ⟨_, rfl⟩
      obtain ⟨br, b1, b2, b3, b4, b5, b6, hbx⟩ := hBR.out
      have krc2 : wx.cell? ⟨w.heap.size, 0, none⟩ = some (.slice none 0 0) := by rw [hbx.cell (p := ⟨w.heap.size, 0, none⟩) (by show w.heap.size < _; omega)]; exact krc
      have krf2 : wx.frozen? ⟨w.heap.size, 0, none⟩ = false := by rw [hbx.frozen (p := ⟨w.heap.size, 0, none⟩) (by show w.heap.size < _; omega)]; exact krf
      have hxc2 : wx.cell? ⟨X, 0, none⟩ = some (.slice va m vc) := by rw [hbx.cell (p := ⟨X, 0, none⟩) (by show X < _; omega)]; exact hxc
      have hxf2 : wx.frozen? ⟨X, 0, none⟩ = false := by rw [hbx.frozen (p := ⟨X, 0, none⟩) (by show X < _; omega)]; exact hxf
      have HN : Hid (PSt q11 (wx.setCell ⟨X, 0, none⟩ (.slice ya m' yc)) X m' (.slice ya m' yc) (plyT A (k + 1))) := by show PSt _ _ _ _ _ _; rw [hTN.out]; exact hS.out.put hbx br b1 b2 HM'.out.symm
      have HBX : Hid (Below w.heap.size w wx) := HBW.out.trans (hbx.mono (by omega))
      have nbx : bx ≠ X := by omega
      have nbR : bx ≠ w.heap.size := by omega
      clear hBR br hxc hxf krc krf hS hbx z0 z1
      cases hok : addB (plyT A k) a c with
      | true =>
        have HP2 := Lib.hid (hP.out.next HK.out hok)
        go_wp2_with fail
        go_roundw
        case rel => exact ⟨k + 1, m', _, by omega, by go_num, HN, HP2⟩
        case measure => simp [intOf]; omega
      | false =>
        obtain ⟨e2, e1⟩ := ply_stop HK.out hok
        have E1 := Lib.hid e1
        have E2 := Lib.hid e2
        clear e1 e2
        have r0 : (wx.setCell ⟨w.heap.size, 0, none⟩ (.slice none 0 0)).cell? ⟨w.heap.size, 0, none⟩ = some (.slice none 0 0) := World.cell?_setCell_same' _ _ _ (by rw [krc2]; rfl)
        go_wp2_with fail
        refine bodyPost_ret (v := .tuple #[.agg #[.slice none 0 0], .bool false]) (by simp [results, Try.results22, go_sem, r0]) rfl ⟨_, by rw [E2.out], ?_, ?_⟩
        · rw [E1.out]; exact ⟨rfl, .inl ⟨rfl, none, 0, rfl⟩⟩
        · exact HBX.out.setCell (by show _ ≤ w.heap.size; omega) _

set_option maxRecDepth 100000 in
set_option maxHeartbeats 4000000 in
theorem iplay_any (lo hi n : Nat) (v : Value) (A : List Ad) (w : World) (hA : A.length = n) (hr : Row 2 w lo hi v n (flat2 A)) (hh : hi ≤ w.heap.size) : Calls Try.prog 23 #[v] w (TabBPost (plyL A) (plyB A) w) := by
  obtain ⟨ad, cp, rfl, hn, hop⟩ := hr.opened
  have HA := Lib.hid hA
  have H := Lib.hid hop
  clear hA hr hop
  by_cases h300 : n ≤ 300
  case neg =>
    have hx : (300 : Int) < (n : Int) := by omega
    have hw1 : (w.alloc (.cells #[.slice none 0 0] 38)).cell? ⟨w.heap.size, 0, none⟩ = some (.slice none 0 0) := by rw [new_at rfl]; rfl
    obtain ⟨e2, e1⟩ := ply_no (A := A) (fun h => by rw [HA.out] at h; omega)
    have E1 := Lib.hid e1
    have E2 := Lib.hid e2
    clear e1 e2
    go_enter Try.func23, Try.ntmps23
    go_wp2_with fail
    refine bodyPost_ret (v := .tuple #[.agg #[.slice none 0 0], .bool false]) (by simp [results, Try.results23, go_sem]) rfl ⟨_, by rw [E2.out], ?_, ?_⟩
    · rw [E1.out]; exact ⟨rfl, .inl ⟨rfl, none, 0, rfl⟩⟩
    · go_grown
  case pos =>
  have hx : ¬ (300 : Int) < (n : Int) := by omega
  go_enter Try.func23, Try.ntmps23
  go_wp2_with fail
  obtain ⟨q11, hq11⟩ : ∃ q, q = ((w.alloc (.cells #[.slice none 0 0] 38)).alloc (.cells #[.slice none 0 0] 38)) := ⟨_, rfl⟩
  have hb11 : Below w.heap.size w q11 := by rw [hq11]; go_grown
  have sz11 : w.heap.size + 2 ≤ q11.heap.size := by rw [hq11]; simp
  have c11_0 : q11.cell? ⟨w.heap.size, 0, none⟩ = some (.slice none 0 0) := by rw [hq11, old_box (by simp <;> omega), new_at (by simp)]; rfl
  have c11_1 : q11.cell? ⟨w.heap.size + 1, 0, none⟩ = some (.slice none 0 0) := by rw [hq11, new_at (by simp)]; rfl
  have g11_0 : q11.frozen? ⟨w.heap.size, 0, none⟩ = false := by rw [hq11, old_frz (by simp <;> omega), new_frz (by simp)]
  have g11_1 : q11.frozen? ⟨w.heap.size + 1, 0, none⟩ = false := by rw [hq11, new_frz (by simp)]
  have B11 : Hid (Below w.heap.size w q11) := Lib.hid hb11
  rw [← hq11]
  have d11_0 : w.heap.size < q11.heap.size := by omega
  have e11_0 : w.heap.size ≠ q11.heap.size := by omega
  have d11_1 : w.heap.size + 1 < q11.heap.size := by omega
  have e11_1 : w.heap.size + 1 ≠ q11.heap.size := by omega
  clear hq11 hb11
  have HC : Hid (q11.cell? ⟨w.heap.size, 0, none⟩ = some (.slice none 0 0)) := c11_0
  have HJ : Hid (q11.frozen? ⟨w.heap.size, 0, none⟩ = false) := g11_0
  obtain ⟨X, hX⟩ : ∃ X, X = w.heap.size + 1 := ⟨_, rfl⟩
  have HS0 : Hid (PSt q11 q11 X 0 (.slice none 0 0) (plyT A 0)) := by rw [hX]; exact PSt.start (by omega) g11_1 c11_1
  rw [← hX]
  have hRX : w.heap.size < X := by omega
  have hwX : w.heap.size + 1 ≤ X := by omega
  clear hX c11_0 g11_0 c11_1 g11_1
  go_loopw [14] (fun i wr => ∃ (k m : Nat) (v : Value), k ≤ n ∧ i = .int .i64 (k : Int) ∧ Hid (PSt q11 wr X m v (plyT A k)) ∧ Hid (PlyP A k)) (fun i _ => n - (intOf i).toNat)
  case atStart => exact ⟨0, 0, _, Nat.zero_le _, rfl, HS0, fun j k n hj => absurd hj (Nat.not_lt_zero _)⟩
  case round =>
    clear HS0
    obtain ⟨wo, rfl⟩ : ∃ x, x = wr := ⟨_, rfl⟩
    obtain ⟨k, m, v, hk, rfl, hS, hP⟩ := hrel
    obtain ⟨va, vc, rfl⟩ := hS.out.row.slice
    have hxc := hS.out.cel
    have hxf := hS.out.frz
    have hxs := hS.out.size
    have hb0 := hS.out.below.size
    have krc : wo.cell? ⟨w.heap.size, 0, none⟩ = some (.slice none 0 0) := hS.out.keep (by omega) HC.out
    have krf : wo.frozen? ⟨w.heap.size, 0, none⟩ = false := hS.out.keepf (by omega) HJ.out
    have HBW : Hid (Below w.heap.size w wo) := B11.out.trans (hS.out.below.mono (by omega))
    have nRX : w.heap.size ≠ X := by omega
    have hm4 : m ≤ 4 := by rw [← hS.out.len]; exact plyT_len (by rw [HA.out]; exact hk) hP.out
    by_cases hlt : k < n
    case neg =>
      obtain rfl : k = n := by omega
      have hge : ¬ ((k : Int) < (k : Int)) := by omega
      have hAk : A.length = k := HA.out
      obtain ⟨e2, e1⟩ := ply_yes (A := A) (by omega) (by rw [hAk]; exact hP.out)
      rw [hAk] at e1
      have E1 := Lib.hid e1
      have E2 := Lib.hid e2
      have HLen := Lib.hid hS.out.len
      have Hrow := Lib.hid ((hS.out.row.setCell (p := ⟨w.heap.size, 0, none⟩) (.inl (by show w.heap.size < X + 1; omega)) (.slice va m vc)).wide (lo' := w.heap.size) (hi' := (wo.setCell ⟨w.heap.size, 0, none⟩ (.slice va m vc)).heap.size) (by omega) (by simp [World.setCell]))
      have r0 : (wo.setCell ⟨w.heap.size, 0, none⟩ (.slice va m vc)).cell? ⟨w.heap.size, 0, none⟩ = some (.slice va m vc) := World.cell?_setCell_same' _ _ _ (by rw [krc]; rfl)
      clear e1 e2 hS
      go_wp2_with fail
      refine bodyPost_ret (v := .tuple #[.agg #[.slice va m vc], .bool true]) (by simp [results, Try.results23, go_sem, r0]) rfl ⟨_, by rw [E2.out], ?_, ?_⟩
      · rw [E1.out, HLen.out]; exact Hrow.out
      · exact HBW.out.setCell (by show _ ≤ w.heap.size; omega) _
    case pos =>
    obtain ⟨g, rfl, hg, hz⟩ := H.out (by omega)
    clear H
    obtain ⟨a, c, hrk⟩ := at2_of_lt (L := A) (i := k) (by rw [HA.out]; exact hlt)
    obtain ⟨r0, r1⟩ := flat2_at A k _ hrk
    have hgs : g < wo.heap.size := by have := HBW.out.size; omega
    have z0 : wo.cell? ⟨g, k * 2, none⟩ = some (.int .i64 a) := by rw [HBW.out.cell (p := ⟨g, k * 2, none⟩) (by show g < _; omega)]; exact hz _ _ r0
    have z1 : wo.cell? ⟨g, k * 2 + 1, none⟩ = some (.int .i64 c) := by rw [HBW.out.cell (p := ⟨g, k * 2 + 1, none⟩) (by show g < _; omega)]; exact hz _ _ r1
    have HK := Lib.hid hrk
    have q0 : (0 : Int) ≤ (k : Int) := by omega
    have q1 : (k : Int) < (n : Int) := by omega
    have hTN := Lib.hid (plyT_at hrk)
    obtain ⟨m', hm'⟩ : ∃ m', m' = (addL (plyT A k) a c).length := ⟨_, rfl⟩
    have HM' := Lib.hid hm'
    have HT := Lib.hid hS.out.len
    clear r0 r1 hrk hz hm'
    have RX : Hid (Row 3 wo (X + 1) wo.heap.size (.slice va m vc) m (flat (plyT A k))) := hS.out.row
    have hXR : X ≠ w.heap.size := by omega
    go_wp2_with fail
    obtain ⟨q21, hq21⟩ : ∃ q, q = (wo.alloc (.cells #[.int .i64 a, .int .i64 c] 33)) := ⟨_, rfl⟩
    have hb21 : Below wo.heap.size wo q21 := by rw [hq21]; go_grown
    have sz21 : wo.heap.size + 1 ≤ q21.heap.size := by rw [hq21]; simp
    have c21_0 : q21.cell? ⟨w.heap.size, 0, none⟩ = some (.slice none 0 0) := by rw [(bcell hb21).1 _ _ (by omega)]; exact krc
    have c21_1 : q21.cell? ⟨X, 0, none⟩ = some (.slice va m vc) := by rw [(bcell hb21).1 _ _ (by omega)]; exact hxc
    have c21_2 : q21.cell? ⟨g, k * 2, none⟩ = some (.int .i64 a) := by rw [(bcell hb21).1 _ _ (by omega)]; exact z0
    have c21_3 : q21.cell? ⟨g, k * 2 + 1, none⟩ = some (.int .i64 c) := by rw [(bcell hb21).1 _ _ (by omega)]; exact z1
    have c21_4 : q21.cell? ⟨wo.heap.size, 0, none⟩ = some (.int .i64 a) := by rw [hq21, new_at (by simp)]; rfl
    have c21_5 : q21.cell? ⟨wo.heap.size, 1, none⟩ = some (.int .i64 c) := by rw [hq21, new_at (by simp)]; rfl
    have g21_0 : q21.frozen? ⟨w.heap.size, 0, none⟩ = false := by rw [(bcell hb21).2 _ _ (by omega)]; exact krf
    have g21_1 : q21.frozen? ⟨X, 0, none⟩ = false := by rw [(bcell hb21).2 _ _ (by omega)]; exact hxf
    have B21 : Hid (Below wo.heap.size wo q21) := Lib.hid hb21
    have R21_0 : Hid (Row 3 q21 ((X + 1)) (wo.heap.size) (.slice va m vc) m (flat (plyT A k))) := Lib.hid (RX.out.below hb21 (by omega))
    rw [← hq21]
    have d21_0 : w.heap.size < q21.heap.size := by omega
    have e21_0 : w.heap.size ≠ q21.heap.size := by omega
    have d21_3 : wo.heap.size < q21.heap.size := by omega
    have e21_3 : wo.heap.size ≠ q21.heap.size := by omega
    clear hq21 hb21 krc hxc z0 z1 krf hxf RX
    go_wp2_with fail
    go_at_call 45
    refine (iadd_any (X + 1) wo.heap.size m _ (plyT A k) a c _ HT.out R21_0.out (by omega)).mono ?_
    rintro e v22 ⟨qv, rfl, rq, hb22⟩
    have sz22 : q21.heap.size ≤ v22.heap.size := hb22.size
    have st22 : Below q21.heap.size q21 v22 := hb22
    have c22_0 : v22.cell? ⟨w.heap.size, 0, none⟩ = some (.slice none 0 0) := by rw [(bcell st22).1 _ _ (by omega)]; exact c21_0
    have c22_1 : v22.cell? ⟨X, 0, none⟩ = some (.slice va m vc) := by rw [(bcell st22).1 _ _ (by omega)]; exact c21_1
    have c22_2 : v22.cell? ⟨g, k * 2, none⟩ = some (.int .i64 a) := by rw [(bcell st22).1 _ _ (by omega)]; exact c21_2
    have c22_3 : v22.cell? ⟨g, k * 2 + 1, none⟩ = some (.int .i64 c) := by rw [(bcell st22).1 _ _ (by omega)]; exact c21_3
    have c22_4 : v22.cell? ⟨wo.heap.size, 0, none⟩ = some (.int .i64 a) := by rw [(bcell st22).1 _ _ (by omega)]; exact c21_4
    have c22_5 : v22.cell? ⟨wo.heap.size, 1, none⟩ = some (.int .i64 c) := by rw [(bcell st22).1 _ _ (by omega)]; exact c21_5
    have g22_0 : v22.frozen? ⟨w.heap.size, 0, none⟩ = false := by rw [(bcell st22).2 _ _ (by omega)]; exact g21_0
    have g22_1 : v22.frozen? ⟨X, 0, none⟩ = false := by rw [(bcell st22).2 _ _ (by omega)]; exact g21_1
    have B22 : Hid (Below wo.heap.size wo v22) := B21.out.trans (st22.mono (by omega))
    have R22_0 : Hid (Row 3 v22 ((X + 1)) (wo.heap.size) (.slice va m vc) m (flat (plyT A k))) := R21_0.out.below st22 (by omega)
    have d22_0 : w.heap.size < v22.heap.size := by omega
    have e22_0 : w.heap.size ≠ v22.heap.size := by omega
    have d22_3 : wo.heap.size < v22.heap.size := by omega
    have e22_3 : wo.heap.size ≠ v22.heap.size := by omega
    have ST22 := Lib.hid st22
    clear d21_0 e21_0 d21_3 e21_3 c21_0 c21_1 c21_2 c21_3 c21_4 c21_5 g21_0 g21_1 B21 st22 R21_0 hb22
    rw [← HM'.out] at rq
    obtain ⟨ya, yc, rfl⟩ := rq.slice
    have HN : Hid (PSt q11 (v22.setCell ⟨X, 0, none⟩ (.slice ya m' yc)) X m' (.slice ya m' yc) (plyT A (k + 1))) := by show PSt _ _ _ _ _ _; rw [hTN.out]; exact hS.out.put B22.out rq (by omega) (Nat.le_refl _) HM'.out.symm
    have HBX : Hid (Below w.heap.size w (v22.setCell ⟨X, 0, none⟩ (.slice ya m' yc))) := (HBW.out.trans (B22.out.mono (by omega))).setCell (by show _ ≤ X; omega) _
    have krc2 : (v22.setCell ⟨X, 0, none⟩ (.slice ya m' yc)).cell? ⟨w.heap.size, 0, none⟩ = some (.slice none 0 0) := by rw [World.cell?_setCell_other _ _ _ _ (by simp <;> omega)]; exact c22_0
    clear rq hS
    cases hok : addB (plyT A k) a c with
    | true =>
      have HP2 := Lib.hid (hP.out.next HK.out hok)
      go_wp2_with fail
      go_roundw
      case rel => exact ⟨k + 1, m', _, by omega, by go_num, HN, HP2⟩
      case measure => simp [intOf]; omega
    | false =>
      obtain ⟨e2, e1⟩ := ply_stop HK.out hok
      have E1 := Lib.hid e1
      have E2 := Lib.hid e2
      clear e1 e2
      have r0 : ((v22.setCell ⟨X, 0, none⟩ (.slice ya m' yc)).setCell ⟨w.heap.size, 0, none⟩ (.slice none 0 0)).cell? ⟨w.heap.size, 0, none⟩ = some (.slice none 0 0) := World.cell?_setCell_same' _ _ _ (by rw [krc2]; rfl)
      go_wp2_with fail
      refine bodyPost_ret (v := .tuple #[.agg #[.slice none 0 0], .bool false]) (by simp [results, Try.results23, go_sem, r0]) rfl ⟨_, by rw [E2.out], ?_, ?_⟩
      · rw [E1.out]; exact ⟨rfl, .inl ⟨rfl, none, 0, rfl⟩⟩
      · exact HBX.out.setCell (by show _ ≤ w.heap.size; omega) _

end Go.Proofs.Ytophppnllkadoaa
