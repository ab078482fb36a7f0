/- WalkCost of both. -/
import Derived.Test.YtflhbfndfjkfgaaQW10
import Derived.WalkSpells
namespace Go.Proofs.Ytflhbfndfjkfgaa
open Go.RowKit


set_option maxHeartbeats 1000000 in
theorem swk_any (N : Int) (lo hi n : Nat) (v : Value) (L : List Ed) (lw hw nw : Nat) (vw : Value) (W : List Int) (w : World) (hL : L.length = n) (hr : Row 3 w lo hi v n (flat L)) (hh : hi ≤ w.heap.size) (hrw : Row 1 w lw hw vw nw W) (hhw : hw ≤ w.heap.size) :
    Calls Try.prog 18 #[.agg #[.int .i64 N, v], vw] w fun e w' => e = .returned (.int .i64 (wcM N L W)) ∧ Below w.heap.size w w' := by
  have H : Hid (∀ w1, Below w.heap.size w w1 → Calls Try.prog 38 #[.agg #[.int .i64 N, v], vw] w1 fun e w' => e = .returned (.int .i64 (wcM N L W)) ∧ Below w1.heap.size w1 w') := Lib.hid (fun w1 hb => swc_any N lo hi n v L lw hw nw vw W w1 hL (hr.below hb hh) (Nat.le_trans hh hb.size) (hrw.below hb hhw) (Nat.le_trans hhw hb.size))
  obtain ⟨ad, cp, rfl⟩ := hr.slice
  obtain ⟨ae, cq, rfl⟩ := hrw.slice
  clear hr hrw hL
  go_enter Try.func18, Try.ntmps18
  go_wp2_with fail
  go_at_call 38
  refine (H.out _ (by go_grown)).mono ?_
  rintro e w1 ⟨rfl, hb⟩
  have HB := unbox hb
  clear hb
  go_wp2_with fail
  go_ret
  exact ⟨rfl, HB⟩

set_option maxHeartbeats 1000000 in
theorem iwk_any (N : Int) (lo hi n : Nat) (v : Value) (L : List Ed) (lw hw nw : Nat) (vw : Value) (W : List Int) (w : World) (hL : L.length = n) (hr : Row 3 w lo hi v n (flat L)) (hh : hi ≤ w.heap.size) (hrw : Row 1 w lw hw vw nw W) (hhw : hw ≤ w.heap.size) :
    Calls Try.prog 21 #[.agg #[.int .i64 N, v], vw] w fun e w' => e = .returned (.int .i64 (wcM N L W)) ∧ Below w.heap.size w w' := by
  have H : Hid (∀ w1, Below w.heap.size w w1 → Calls Try.prog 40 #[.agg #[.int .i64 N, v], vw] w1 fun e w' => e = .returned (.int .i64 (wcM N L W)) ∧ Below w1.heap.size w1 w') := Lib.hid (fun w1 hb => iwc_any N lo hi n v L lw hw nw vw W w1 hL (hr.below hb hh) (Nat.le_trans hh hb.size) (hrw.below hb hhw) (Nat.le_trans hhw hb.size))
  obtain ⟨ad, cp, rfl⟩ := hr.slice
  obtain ⟨ae, cq, rfl⟩ := hrw.slice
  clear hr hrw hL
  go_enter Try.func21, Try.ntmps21
  go_wp2_with fail
  go_at_call 40
  refine (H.out _ (by go_grown)).mono ?_
  rintro e w1 ⟨rfl, hb⟩
  have HB := unbox hb
  clear hb
  go_wp2_with fail
  go_ret
  exact ⟨rfl, HB⟩

end Go.Proofs.Ytflhbfndfjkfgaa
