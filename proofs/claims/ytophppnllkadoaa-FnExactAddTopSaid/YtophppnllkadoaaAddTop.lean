/- 'laws.FnExactAddTop' answers true for every list of heavy hitters, of whatever length, every key and every number, and leaves its argument as it was; what the program returns is memory of its own. No condition. -/
import Derived.Test.YtophppnllkadoaaLAddTop
import Derived.Test.YtophppnllkadoaaS9
import Derived.Test.YtophppnllkadoaaS12
import Derived.Test.YtophppnllkadoaaOpen
namespace Go.Proofs.Ytophppnllkadoaa
open Go.ChangeShapes Go.WideShapes Go.ChangeAt Go.RowKit Go.Joins


theorem lawAddTop (s : Value) (n : Nat) (Z : Nat → Int) (key m : Int) (w : World) (hA : Arg 3 w s n Z) (_hk : I64 key) (_hm : I64 m) :
    Calls Try.prog 12 #[.agg #[s], .int .i64 key, .int .i64 m] w fun e w' => e = .returned (.bool true) ∧ Below w.heap.size w w' := by
  by_cases hn : n ≤ 1048576
  · have e : zs Z n 3 = flat (eds Z n) := (flat_eds Z n).symm
    have hl := addL_len (eds Z n) key m
    rw [eds_len] at hl
    exact lawExactAddTop_fit s n Z key m w hA hn (addL (eds Z n) key m).length (flat (addL (eds Z n) key m)) (addB (eds Z n) key m) (by omega) (fun lo hi v w hr hh => sadd_any lo hi n v (eds Z n) key m w (eds_len Z n) (e ▸ hr) hh) (fun lo hi v w hr hh => iadd_any lo hi n v (eds Z n) key m w (eds_len Z n) (e ▸ hr) hh)
  · exact lawExactAddTop_big0 s n Z key m w hA (by omega)

set_option maxRecDepth 100000 in
theorem ExactAddTop_lifted (os : Os) (started : os.Started) (H : Type) (enc : TypeId × Value → H) :
    ReturnsInHanded {} Try.checked os 12 .any (Rows.fnExactAddTopSpec.pre6 enc Try.prog Try.f12 Rows.fnExactAddTopRow.domain false) (Rows.fnExactAddTopSpec.post enc Try.prog Try.f12 false true false false) := by
  refine returnsInHanded_of_change (C := Try.checked) Try.own started (by kernel_rfl) Try.func12
    (ChangeSpec.witness6 (enc := enc) (C := Try.checked) false ⟨#[], #[.agg #[.slice none 0 0], .int .i64 0, .int .i64 0], []⟩ 8 (by kernel_rfl) (by kernel_rfl) (by kernel_rfl) (by kernel_rfl)) ?_
  intro W base args ds gs before hval0 hW _ _
  have hval : ∀ (j : Nat) t v, Try.f12.params[j]? = some t → args[j]? = some v → Value.okWide Try.prog W .any base t v := hval0
  have hW' := hW
  obtain ⟨p, q, hA0, _, _, _, _⟩ := hW
  have hA : DataW.TrodAll enc Try.prog W 0 (fun _ => true) true Try.f12.params.toList args.toList ds p := hA0
  rw [Try.params12] at hA hval
  obtain ⟨v0, v1, v2, d0, d1, d2, p0, p1, p2, rfl, rfl, rfl, h0, h1, h2⟩ := trodAll_three hA
  obtain ⟨s0, n0, Z0, rfl, A0⟩ := open_Top (hval 0 61 v0 rfl rfl) h0
  obtain ⟨a1, rfl, ha1, hb1⟩ := open_num (hval 1 3 v1 rfl rfl) h1
  obtain ⟨a2, rfl, ha2, hb2⟩ := open_num (hval 2 3 v2 rfl rfl) h2
  refine (lawAddTop s0 n0 Z0 a1 a2 W A0 ⟨ha1, hb1⟩ ⟨ha2, hb2⟩).mono fun e W' ⟨he, hw⟩ => ⟨_, he, law_post Try.laidOut (fun u hu => ?_) rfl rfl Try.underlying4 hW' rfl hw⟩
  rw [Try.params12] at hu
  simp at hu
  rcases hu with rfl | rfl
  · exact Try.read61
  · exact Try.read3

theorem ExactAddTop_holds : Rows.FnExactAddTopSaid :=
  OpenClaim.holds_of_wide 12 Try.f12 rfl rfl rfl rfl rfl rfl rfl ⟨rfl, rfl, rfl, rfl, rfl⟩ rfl rfl rfl rfl rfl (by kernel_rfl) Try.func12 (by kernel_rfl)
    (of_decide_eq_true (by kernel_rfl)) (by unfold Func.isWrapper; first | (rw [if_pos (by decide +kernel)]; kernel_rfl) | (rw [if_neg (by decide +kernel)]; exact ⟨rfl, rfl⟩))
    (fun os started H enc _ => ExactAddTop_lifted os started H enc)

end Go.Proofs.Ytophppnllkadoaa
