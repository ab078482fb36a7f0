/- The law's own reading of its bytes. -/
import Derived.Test.YtgdnfglhlpnooaaDq
namespace Go.Proofs.Ytgdnfglhlpnooaa
open Go.RowKit

theorem big_any (a : Option Addr) (n cp : Nat) (w : World) : Calls Try.prog 22 #[.slice a n cp] w fun e w' => e = .returned (.bool (decide ((n : Int) > 1048576))) ∧ w = w' := by
  go_enter Try.func22, Try.ntmps22
  go_wp2_with fail
  go_ret
  exact ⟨rfl, rfl⟩
theorem at_any (a : Option Addr) (n cp i : Nat) (w : World) (hb : BytesAt w a n) (hn : n ≤ 1048576) (hi : i ≤ 1000) : Calls Try.prog 24 #[.slice a n cp, .int .i64 (i : Int)] w fun e w' => (∃ x : Int, e = .returned (.int .i64 x) ∧ 0 ≤ x ∧ x ≤ 255) ∧ w = w' := by
  by_cases h : i < n
  · have d : decide ((i : Int) < (n : Int)) = true := decide_eq_true (by omega)
    obtain ⟨b, off, rfl, _, hc⟩ := hb.2 (by omega)
    obtain ⟨z, hz, z0, z1⟩ := hc i h
    have hw : IntKind.i64.wrap z = z := IntWalk.i64_in _ (by omega)
    go_enter Try.func24, Try.ntmps24
    go_wp2_with fail
    go_ret
    exact ⟨⟨z, rfl, z0, z1⟩, rfl⟩
  · have d : decide ((i : Int) < (n : Int)) = false := decide_eq_false (by omega)
    have e1 : IntKind.i64.wrap ((i : Int) * 13) = (i : Int) * 13 := IntWalk.i64_in _ (by omega)
    have e2 : IntKind.i64.wrap ((n : Int) * 5) = (n : Int) * 5 := IntWalk.i64_in _ (by omega)
    have e3 : IntKind.i64.wrap ((i : Int) * 13 + (n : Int) * 5) = (i : Int) * 13 + (n : Int) * 5 := IntWalk.i64_in _ (by omega)
    go_enter Try.func24, Try.ntmps24
    go_wp2_with fail
    go_ret
    exact ⟨⟨_, rfl, by omega, by omega⟩, rfl⟩

end Go.Proofs.Ytgdnfglhlpnooaa
