/- 'laws.FnExactPlayTop' answers true for every list of additions, of whatever length, and leaves its argument as it was; what the program returns is memory of its own. No condition. -/
import Derived.Test.YtophppnllkadoaaLPlayTop
import Derived.Test.YtophppnllkadoaaS13
import Derived.Test.YtophppnllkadoaaOpen
namespace Go.Proofs.Ytophppnllkadoaa
open Go.ChangeShapes Go.WideShapes Go.ChangeAt Go.RowKit Go.Joins


theorem lawPlayTop (v : Value) (n : Nat) (Z : Nat → Int) (w : World) (hA : Arg 2 w v n Z) :
    Calls Try.prog 13 #[v] w fun e w' => e = .returned (.bool true) ∧ Below w.heap.size w w' := by
  by_cases hn : n ≤ 1048576
  · have e : zs Z n 2 = flat2 (ads Z n) := (flat2_ads Z n).symm
    have hl := plyL_len (ads Z n)
    exact lawExactPlayTop_fit v n Z w hA hn (plyL (ads Z n)).length (flat (plyL (ads Z n))) (plyB (ads Z n)) (by omega) (fun lo hi v w hr hh => splay_any lo hi n v (ads Z n) w (ads_len Z n) (e ▸ hr) hh) (fun lo hi v w hr hh => iplay_any lo hi n v (ads Z n) w (ads_len Z n) (e ▸ hr) hh)
  · exact lawExactPlayTop_big0 v n Z w hA (by omega)

set_option maxRecDepth 100000 in
theorem ExactPlayTop_lifted (os : Os) (started : os.Started) (H : Type) (enc : TypeId × Value → H) :
    ReturnsInHanded {} Try.checked os 13 .any (Rows.fnExactPlayTopSpec.pre6 enc Try.prog Try.f13 Rows.fnExactPlayTopRow.domain false) (Rows.fnExactPlayTopSpec.post enc Try.prog Try.f13 false true false false) := by
  refine returnsInHanded_of_change (C := Try.checked) Try.own started (by kernel_rfl) Try.func13
    (ChangeSpec.witness6 (enc := enc) (C := Try.checked) false ⟨#[], #[.slice none 0 0], []⟩ 8 (by kernel_rfl) (by kernel_rfl) (by kernel_rfl) (by kernel_rfl)) ?_
  intro W base args ds gs before hval0 hW _ _
  have hval : ∀ (j : Nat) t v, Try.f13.params[j]? = some t → args[j]? = some v → Value.okWide Try.prog W .any base t v := hval0
  have hW' := hW
  obtain ⟨p, q, hA0, _, _, _, _⟩ := hW
  have hA : DataW.TrodAll enc Try.prog W 0 (fun _ => true) true Try.f13.params.toList args.toList ds p := hA0
  rw [Try.params13] at hA hval
  obtain ⟨v0, d0, rfl, rfl, h0⟩ := trodAll_one hA
  obtain ⟨n0, Z0, A0⟩ := open_AddS (hval 0 69 v0 rfl rfl) h0
  refine (lawPlayTop v0 n0 Z0 W A0).mono fun e W' ⟨he, hw⟩ => ⟨_, he, law_post Try.laidOut (fun u hu => ?_) rfl rfl Try.underlying4 hW' rfl hw⟩
  rw [Try.params13] at hu
  simp at hu
  subst hu
  exact Try.read69

theorem ExactPlayTop_holds : Rows.FnExactPlayTopSaid :=
  OpenClaim.holds_of_wide 13 Try.f13 rfl rfl rfl rfl rfl rfl rfl ⟨rfl, rfl, rfl, rfl, rfl⟩ rfl rfl rfl rfl rfl (by kernel_rfl) Try.func13 (by kernel_rfl)
    (of_decide_eq_true (by kernel_rfl)) (by unfold Func.isWrapper; first | (rw [if_pos (by decide +kernel)]; kernel_rfl) | (rw [if_neg (by decide +kernel)]; exact ⟨rfl, rfl⟩))
    (fun os started H enc _ => ExactPlayTop_lifted os started H enc)

end Go.Proofs.Ytophppnllkadoaa
