/- slices.Backward over routes: the iterator's contract, for whatever loop body keeps what lay below. -/
import Derived.RangeFuncNested
import Derived.RangeFuncBound
import Derived.RangeFuncCalls
import Derived.RangeFuncLeaves
import Derived.RangeFuncBox
import Derived.Shelf.Abstract
import Derived.Shelf.RegionOpen
import Derived.OwnWalkIn
import Derived.TacticsInMore
import Derived.LoopNIn
import Derived.LoopIn
import Derived.Test.YtgdnfglhlpnooaaWt
import Derived.Test.YtgdnfglhlpnooaaL0
namespace Go.Proofs.Ytgdnfglhlpnooaa
open Go.RowKit Go.Shelf

attribute [local go_sem] Oper.semAt_some

abbrev BX := Int × Rt
/-- An index and a route whose prefix is valid. -/
abbrev BY := { x : BX // pokB x.2.1 x.2.2.1 = true }
def mkB (x : BX) : BY := if h : pokB x.2.1 x.2.2.1 = true then ⟨x, h⟩ else ⟨(0, 0, 0, 0), by decide⟩
theorem mkB_val {x : BX} (h : pokB x.2.1 x.2.2.1 = true) : (mkB x).1 = x := by unfold mkB; rw [dif_pos h]
def encB (x : BY) : Array Value := #[.int .i64 x.1.1, .agg #[.int .i64 x.1.2.1, .int .i64 x.1.2.2.1, .int .i64 x.1.2.2.2]]
/-- What comes when k rounds are over: the last k routes, the last one first. -/
def upb (L : List Rt) (k : Nat) : List BY := (List.range k).map fun (j : Nat) => mkB ((L.length : Int) - 1 - (j : Int), L.getD (L.length - 1 - j) rt0)
theorem upb_succ (L : List Rt) (k : Nat) : upb L (k + 1) = upb L k ++ [mkB ((L.length : Int) - 1 - (k : Int), L.getD (L.length - 1 - k) rt0)] := by simp [upb, List.range_succ]
theorem upb_len (L : List Rt) (k : Nat) : (upb L k).length = k := by simp [upb]

set_option maxRecDepth 100000 in
set_option maxHeartbeats 2000000 in
theorem back1_in (F : Fence) (n : Nat) (h108 : F.fn 131) (hro : F.round = none) (hn : 1 ≤ n) (l Bs n₀ g cap len : Nat) (L : List Rt) (hL : L.length = len) (hv : ∀ r ∈ L, pokB r.1 r.2.1 = true) (hlen : len ≤ 1100000) (hg : g < n₀) (J Jx : List BY → World → Prop)
    (hY : ∀ pre (x : BY) W, J pre W → pre.length < len → YieldAt F (n - 1) Try.prog l (encB x) W fun e W' =>
      (e = .returned (.bool true) ∧ J (pre ++ [x]) W' ∧ Below n₀ W W') ∨ (e = .returned (.bool false) ∧ Jx (pre ++ [x]) W'))
    (W : World) (hBs0 : Bs < n₀) (hBs : W.cell? ⟨Bs, 0, none⟩ = some (.slice (some ⟨g, 0, none⟩) len cap)) (hc : ∀ q z, (flat L)[q]? = some z → W.cell? ⟨g, q, none⟩ = some (.int .i64 z)) (h0 : J [] W) :
    CallsIn F n Try.prog 131 #[.func (.yield l) #[] #[], .pointer (some ⟨Bs, 0, none⟩)] W fun e W' => (∃ v, e = .returned v) ∧
      ((∃ ys, ys = upb L len ∧ J ys W') ∨ (∃ pre, (∃ k, k ≤ len ∧ pre = upb L k) ∧ Jx pre W')) := by
  have HL := Lib.hid hL
  have HC := Lib.hid hc
  clear hL hc
  have h00 : J (upb L 0) W := h0
  refine callsIn_of_wp Try.func131 rfl h108 ?_ hro
  simp only [Try.ntmps131, List.size_toArray, List.length_cons, List.length_nil, Nat.reduceAdd, Nat.reduceSub, Array.replicate_succ, Array.replicate_zero, List.push_toArray, List.append_toArray, List.nil_append, List.cons_append]
  gi_wp2
  gi_loopw [3] (fun i wr => ∃ k : Nat, k ≤ len ∧ i = .int .i64 ((len : Int) - 1 - (k : Int)) ∧ J (upb L k) wr ∧ Below n₀ W wr)
    (fun i _ => (intOf i + 1).toNat)
  case atStart => exact ⟨0, Nat.zero_le _, by simp, h00, Below.refl _ _⟩
  case round =>
    obtain ⟨k, hk, rfl, hJs, hnx⟩ := hrel
    have hbs : wr.cell? ⟨Bs, 0, none⟩ = some (.slice (some ⟨g, 0, none⟩) len cap) := (hnx.cell (p := ⟨Bs, 0, none⟩) hBs0).trans hBs
    by_cases hlt : k < len
    · obtain ⟨m, hm⟩ : ∃ m : Nat, m = len - 1 - k := ⟨_, rfl⟩
      obtain ⟨⟨a, b, c⟩, hr⟩ : ∃ r, L[m]? = some r := ⟨L[m]'(by rw [HL.out]; omega), List.getElem?_eq_getElem _⟩
      obtain ⟨r0, r1, r2⟩ := flat_at L m _ hr
      have c0 := (hnx.cell (p := ⟨g, m * 3, none⟩) hg).trans (HC.out _ _ r0)
      have c1 := (hnx.cell (p := ⟨g, m * 3 + 1, none⟩) hg).trans (HC.out _ _ r1)
      have c2 := (hnx.cell (p := ⟨g, m * 3 + 2, none⟩) hg).trans (HC.out _ _ r2)
      have hx : L.getD (L.length - 1 - k) rt0 = (a, b, c) := by rw [HL.out, ← hm, List.getD_eq_getElem?_getD, hr]; rfl
      have e1 : (len : Int) - 1 - (k : Int) = (m : Int) := by omega
      have hS := upb_succ L k
      rw [hx, HL.out, e1] at hS
      have HS := Lib.hid hS
      have Hm := Lib.hid hm
      obtain ⟨fn, tmps, assign, body, hy, hR⟩ := hY _ (mkB ((m : Int), (a, b, c))) wr hJs (by rw [upb_len]; exact hlt)
      rw [show encB (mkB ((m : Int), (a, b, c))) = #[.int .i64 (m : Int), .agg #[.int .i64 a, .int .i64 b, .int .i64 c]] by unfold encB; rw [mkB_val (hv _ (List.mem_of_getElem? hr))]] at hy
      have hm0 : (0 : Int) ≤ (m : Int) := by omega
      have hm1 : (m : Int) < (len : Int) := by omega
      have H1 := Lib.hid e1
      rw [e1]
      clear r0 r1 r2 hr hx hS hm e1
      gi_wp2
      refine hR.mono ?_
      rintro e W3 (⟨rfl, hJ3, hk3⟩ | ⟨rfl, hJx3⟩)
      · gi_wp2
        go_roundw
        case rel => exact ⟨k + 1, by omega, by have := H1.out; go_num, by rw [HS.out]; exact hJ3, hnx.trans hk3⟩
        case measure => first | (simp [intOf]; done) | (simp [intOf]; omega)
      · gi_wp2
        refine bodyPost_ret (results_none rfl _ _ _) rfl ?_
        exact ⟨⟨_, rfl⟩, .inr ⟨_, ⟨k + 1, by omega, HS.out.symm⟩, hJx3⟩⟩
    · have hneg : ¬ ((0 : Int) ≤ (len : Int) - 1 - (k : Int)) := by omega
      obtain rfl : k = len := by omega
      gi_wp2
      go_end0
      first | exact ⟨⟨_, rfl⟩, .inl hJs⟩ | exact ⟨⟨_, rfl⟩, .inl ⟨_, rfl, hJs⟩⟩

/-- The slice sv holds the routes L, in a block below n₀; or there are none. -/
def RowB (n₀ : Nat) (W : World) (sv : Value) (L : List Rt) : Prop :=
  (L = [] ∧ ∃ a c, sv = .slice a 0 c) ∨ ∃ g cap, sv = .slice (some ⟨g, 0, none⟩) L.length cap ∧ L.length ≤ 1100000 ∧ g < n₀ ∧ ∀ q z, (flat L)[q]? = some z → W.cell? ⟨g, q, none⟩ = some (.int .i64 z)
theorem RowB.below {n₀ : Nat} {A B : World} (h : Below n₀ A B) {sv : Value} {L : List Rt} (hr : RowB n₀ A sv L) : RowB n₀ B sv L := by
  rcases hr with e | ⟨g, cap, e, hl, hg, hc⟩
  · exact .inl e
  · exact .inr ⟨g, cap, e, hl, hg, fun q z hz => (h.cell (p := ⟨g, q, none⟩) hg).trans (hc q z hz)⟩
theorem Row.toB {w : World} {lo hi n : Nat} {v : Value} {L : List Rt} (hL : L.length = n) (h : Row 3 w lo hi v n (flat L)) : RowB hi w v L := by
  subst hL
  rcases h.2 with ⟨h0, a, c, rfl⟩ | ⟨g, cap, rfl, h1, h2, h3, h4, h5⟩
  · exact .inl ⟨List.eq_nil_of_length_eq_zero h0, a, c, rfl⟩
  · exact .inr ⟨g, cap, rfl, h3, h2, h4⟩

set_option maxRecDepth 100000 in
set_option maxHeartbeats 1000000 in
theorem back1_nil_in (F : Fence) (n : Nat) (h108 : F.fn 131) (hro : F.round = none) (l Bs : Nat) (a : Option Addr) (c : Nat) (J : List BY → World → Prop) (W : World) (hBs : W.cell? ⟨Bs, 0, none⟩ = some (.slice a 0 c)) (h0 : J [] W) :
    CallsIn F n Try.prog 131 #[.func (.yield l) #[] #[], .pointer (some ⟨Bs, 0, none⟩)] W fun e W' => (∃ v, e = .returned v) ∧ J [] W' := by
  refine callsIn_of_wp Try.func131 rfl h108 ?_ hro
  simp only [Try.ntmps131, List.size_toArray, List.length_cons, List.length_nil, Nat.reduceAdd, Nat.reduceSub, Array.replicate_succ, Array.replicate_zero, List.push_toArray, List.append_toArray, List.nil_append, List.cons_append]
  gi_wp2
  gi_loopw [3] (fun i wr => i = .int .i64 (-1) ∧ J [] wr) (fun _ _ => 0)
  case atStart => exact ⟨rfl, h0⟩
  case round =>
    obtain ⟨rfl, hJs⟩ := hrel
    gi_wp2
    go_end0
    exact ⟨⟨_, rfl⟩, hJs⟩

set_option maxHeartbeats 1000000 in
theorem backward_in (F : Fence) (n : Nat) (h74 : F.fn 108) (hro : F.round = none) (a : Option Addr) (len cap : Nat) (w : World) :
    CallsIn F n Try.prog 108 #[.slice a len cap] w fun e w' => e = .returned (.func (.func 131) #[] #[.pointer (some ⟨w.heap.size, 0, none⟩)]) ∧ w' = w.alloc (.cells #[.slice a len cap] 28) := by
  refine callsIn_of_wp Try.func108 rfl h74 ?_ hro
  simp only [Try.ntmps108, List.size_toArray, List.length_cons, List.length_nil, Nat.reduceAdd, Nat.reduceSub, Array.replicate_succ, Array.replicate_zero, List.push_toArray, List.append_toArray, List.nil_append, List.cons_append]
  gi_wp2
  go_ret
  exact ⟨rfl, rfl⟩

/-- What slices.Backward hands back. -/
theorem back_stops (F : Fence) (n : Nat) (h108 : F.fn 131) (hro : F.round = none) (hn : 1 ≤ n) (Bs n₀ : Nat) (sv : Value) (L : List Rt) (hv : ∀ r ∈ L, pokB r.1 r.2.1 = true) (w : World) (hBs : Bs < n₀) (hn₀ : n₀ ≤ w.heap.size)
    (hc : w.cell? ⟨Bs, 0, none⟩ = some sv) (hI : RowB n₀ w sv L) :
    SeqStopsK F n Try.prog 131 #[.pointer (some ⟨Bs, 0, none⟩)] encB (Below n₀) (fun ys => ys = upb L L.length) (fun pre => ∃ k, k ≤ L.length ∧ pre = upb L k) L.length w := fun l J Jx W hW _ _ hY h0 => by
  have hc' := (hW.cell (p := ⟨Bs, 0, none⟩) (by show Bs < _; omega)).trans hc
  rcases hI.below (hW.mono hn₀) with ⟨rfl, a, c, rfl⟩ | ⟨g, cap, rfl, hl, hg, hcs⟩
  · exact (back1_nil_in F n h108 hro l Bs a c J W hc' h0).mono fun e W' ⟨he, hj⟩ => ⟨he, .inl ⟨_, rfl, hj⟩⟩
  · exact back1_in F n h108 hro hn l Bs n₀ g cap L.length L rfl hv hl hg J Jx hY W hBs hc' hcs h0

end Go.Proofs.Ytgdnfglhlpnooaa
