/- The lists that the laws speak of. -/
import Derived.Test.YtflhbfndfjkfgaaGi
import Derived.Test.YtflhbfndfjkfgaaTu
import Derived.Deep.DeepCutAuto
namespace Go.Proofs.Ytflhbfndfjkfgaa
open Go.RowKit


theorem markIntS_T (K : Int) (Z : List Int) (n lo hi : Nat) (v : Value) (w : World) (hK : K = 1 + ((n * 1 : Nat) : Int)) (hr : Row 1 w lo hi v n Z) (hl : n ≤ 1100000) :
    Calls Try.prog 15 #[v, .int .i64 1] w fun e w' => e = .returned (.int .i64 K) ∧ Row 1 w' lo hi v n (marks 1 (n * 1)) ∧ Tur lo hi w w' :=
  (markIntS_K K Z n lo hi v w hK hr hl).mono fun _ _ h => ⟨h.1, h.2.1, Tur.of h.2.2⟩

end Go.Proofs.Ytflhbfndfjkfgaa
