/- Steps of a drawn region in the text's order, the slot written named: an operation that its guard leaves out, one that only reads, one that calls. Of whatever program. -/
import Derived.WalkKit
import Derived.Deep.RegionHeld3
namespace Go.Proofs.Ytgdnfglhlpnooaa
open Go.RowKit

section
variable {P : Program} {md : Region.Mode} {ops : Array Oper} {Q : Exit → Act → World → Prop} {S : World → Prop} {fuel : Nat} {listed : Array Bool} {w : World}

theorem put_at (ts : List Value) (ds) (d : Tmp) (v : Value) : Act.put { tmps := ts.toArray, defers := ds } (some d) v = { tmps := (ts.set d v).toArray, defers := ds } := by
  simp [Act.put]

/-- Number i is left out by its guard. -/
theorem step_skip (i d : Nat) {oi : Oper} {ts : List Value} {ds} (hi : ops[i]? = some oi) (hd : oi.dst = some d)
    (hs : Region.noSelect ops = true) (hf : Region.free md ops listed i = true) (hr : (Region.ready md ops listed).contains i = true)
    (hQ : ∀ c a w, Q (.panic c) (a.put oi.dst undef) w → Q (.panic c) a w) (hw : Region.wanted oi (yielded ops ts.toArray) = false) (hS : S w)
    (h : wpAnyH P md ops Q S fuel (listed.setIfInBounds i true) { tmps := (ts.set d undef).toArray, defers := ds } w) : wpAnyH P md ops Q S (fuel + 1) listed { tmps := ts.toArray, defers := ds } w :=
  wpAnyH_take hi hs hf hr hQ (Or.inr ⟨hw, rfl⟩) hS (by rw [hd, put_at]; exact h)

/-- Number i yields v in every world that meets S. -/
theorem step_read (i d : Nat) {v : Value} {oi : Oper} {ts : List Value} {ds} (hi : ops[i]? = some oi) (hd : oi.dst = some d)
    (hs : Region.noSelect ops = true) (hf : Region.free md ops listed i = true) (hr : (Region.ready md ops listed).contains i = true)
    (hQ : ∀ c a w, Q (.panic c) (a.put oi.dst v) w → Q (.panic c) a w) (hw : Region.wanted oi (yielded ops ts.toArray) = true)
    (hy : ∀ w, S w → (execOp (Act.eval { tmps := ts.toArray, defers := ds }) oi).run P w = .ok (.value v) w) (hS : S w)
    (h : wpAnyH P md ops Q S fuel (listed.setIfInBounds i true) { tmps := (ts.set d v).toArray, defers := ds } w) : wpAnyH P md ops Q S (fuel + 1) listed { tmps := ts.toArray, defers := ds } w :=
  wpAnyH_take hi hs hf hr hQ (Or.inl ⟨hw, hy⟩) hS (by rw [hd, put_at]; exact h)
end

end Go.Proofs.Ytgdnfglhlpnooaa
