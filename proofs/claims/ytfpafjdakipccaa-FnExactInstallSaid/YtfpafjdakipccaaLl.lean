/- Lacks of the specification. -/
import Derived.Test.YtfpafjdakipccaaSj
import Derived.Test.YtfpafjdakipccaaSk
namespace Go.Proofs.Ytfpafjdakipccaa
open Go.RowKit
theorem sinst_any (D : List Ls) (l : Ls) (lo hi lo2 hi2 : Nat) (v u x : Value) (w : World) (hr : DRow w lo hi v D) (hr2 : LRow w lo2 hi2 u x l.K.length l.T.length (flat2 l.K) (flat l.T)) (hh : hi <= w.heap.size) (hh2 : hi2 <= w.heap.size) (hd : dtot D <= 1048576) :
    Calls Try.prog 29 #[.agg #[v], .agg #[.int .i64 l.o, .int .i64 l.s, .int .i64 l.g, u, x]] w fun e w' => ∃ rv, e = .returned (.tuple #[.agg #[rv], .int .i64 (icode D l)]) /\ DRow w' w.heap.size w'.heap.size rv (inst D l) /\ Below w.heap.size w w' := by
  cases hv : dokB D
  · exact sins_1 D l lo hi lo2 hi2 v u x w hr hr2 hh hh2 hd hv
  · cases hl : l.ok
    · exact sins_2 D l lo hi lo2 hi2 v u x w hr hr2 hh hh2 hd hv hl
    · cases hf : dfind D l.o with
      | none =>
        by_cases hg : l.g = 60
        · exact sins_3 D l lo hi lo2 hi2 v u x w hr hr2 hh hh2 hd hv hl hf hg
        · exact (sins_4 D l lo hi lo2 hi2 v u x w hr hr2 hh hh2 hd hv hl hf hg).mono fun _ _ h => h
      | some old =>
        obtain ⟨h1, h2⟩ := flo_len hv hf
        rcases newL_three hl h2 h1.symm with hz | hz | hz
        · exact (sins_7 D l lo hi lo2 hi2 v u x w hr hr2 hh hh2 hd hv hl old hf hz).mono fun _ _ h => h
        · exact sins_5 D l lo hi lo2 hi2 v u x w hr hr2 hh hh2 hd hv hl old hf hz
        · exact sins_6 D l lo hi lo2 hi2 v u x w hr hr2 hh hh2 hd hv hl old hf hz
end Go.Proofs.Ytfpafjdakipccaa
