/- FindLsa of both. -/
import Derived.Test.YtfpafjdakipccaaFf
namespace Go.Proofs.Ytfpafjdakipccaa
open Go.RowKit
theorem flo_len {D : List Ls} {x : Int} (h : dokB D = true) {l : Ls} (hl : dfind D x = some l) : l.o = x /\ l.ok = true := by
  obtain ⟨h1, i, hi⟩ := dfind_some hl
  exact ⟨h1, (dokB_get h hi).1⟩
theorem sfind_any (D : List Ls) (x : Int) (lo hi : Nat) (v : Value) (w : World) (hr : DRow w lo hi v D) (hh : hi <= w.heap.size) :
    Calls Try.prog 22 #[.agg #[v], .int .i64 x] w fun e w' => ∃ ru rv, e = .returned (.tuple #[.agg #[.int .i64 (flv D x).o, .int .i64 (flv D x).s, .int .i64 (flv D x).g, ru, rv], .bool (flo D x).isSome]) /\ LRow w' w.heap.size w'.heap.size ru rv (flv D x).K.length (flv D x).T.length (flat2 (flv D x).K) (flat (flv D x).T) /\ Below w.heap.size w w' := by
  cases hv : dokB D
  · have e : flo D x = none := flo_no hv
    unfold flv; rw [e]
    exact sfind_no D x lo hi v w hr hh hv
  · exact sfind_yes D x lo hi v w hr hh hv
end Go.Proofs.Ytfpafjdakipccaa
