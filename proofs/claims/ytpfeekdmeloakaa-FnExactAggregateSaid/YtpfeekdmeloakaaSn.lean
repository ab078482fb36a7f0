/- The sort of no element. -/
import Derived.Test.YtpfeekdmeloakaaSh
import Derived.Shelf.SlSortCmp.NoneTotal
namespace Go.Proofs.Ytpfeekdmeloakaa
open Go.Shelf

theorem sortP_none (p : Option Addr) (c : Nat) (fv : Value) (w : World) : Calls Try.prog 113 #[.slice p 0 c, fv] w fun e w' => e = .returned (.tuple #[]) ∧ w' = w :=
  AnyF.slices_SortFunc_none (P := Try.prog) (ρ := Try.sortP_ren) { Try.sortP with } p c fv w

end Go.Proofs.Ytpfeekdmeloakaa
