/- 'laws.FnExactCountAddrs' answers true for every list of prefixes, of whatever length, and leaves its argument as it was. No condition. -/
import Derived.Test.YtpfeekdmeloakaaLCountAddrs
import Derived.Test.YtpfeekdmeloakaaCm
import Derived.Test.YtpfeekdmeloakaaRi
import Derived.Test.YtpfeekdmeloakaaOpen
namespace Go.Proofs.Ytpfeekdmeloakaa
open Go.ChangeShapes Go.WideShapes Go.ChangeAt Go.RowKit Go.Joins


theorem lawCountAddrs (v : Value) (n : Nat) (Z : Nat → Int) (w : World) (hA : Arg 2 w v n Z) :
    Calls Try.prog 9 #[v] w fun e w' => e = .returned (.bool true) ∧ Below w.heap.size w w' := by
  by_cases hn : n ≤ 1048576
  · have e : zs Z n 2 = flat2 (pfs Z n) := (flat2_pfs Z n).symm
    exact lawExactCountAddrs_fit v n Z w hA hn (cntO (pfs Z n)) (fun lo hi v w hr hh => scount_any lo hi n v (pfs Z n) w (pfs_len Z n) (e ▸ hr) hh (by omega)) (fun lo hi v w hr hh => icount_any lo hi n v (pfs Z n) w (pfs_len Z n) (e ▸ hr) hh (by omega))
  · exact lawExactCountAddrs_big0 v n Z w hA (by omega)

set_option maxRecDepth 100000 in
theorem ExactCountAddrs_lifted (os : Os) (started : os.Started) (H : Type) (enc : TypeId × Value → H) :
    ReturnsInHanded {} Try.checked os 9 .any (Rows.fnExactCountAddrsSpec.pre6 enc Try.prog Try.f9 Rows.fnExactCountAddrsRow.domain false) (Rows.fnExactCountAddrsSpec.post enc Try.prog Try.f9 false true false false) := by
  refine returnsInHanded_of_change (C := Try.checked) Try.own started (by kernel_rfl) Try.func9
    (ChangeSpec.witness6 (enc := enc) (C := Try.checked) false ⟨#[], #[.slice none 0 0], []⟩ 8 (by kernel_rfl) (by kernel_rfl) (by kernel_rfl) (by kernel_rfl)) ?_
  intro W base args ds gs before hval0 hW _ _
  have hval : ∀ (j : Nat) t v, Try.f9.params[j]? = some t → args[j]? = some v → Value.okWide Try.prog W .any base t v := hval0
  have hW' := hW
  obtain ⟨p, q, hA0, _, _, _, _⟩ := hW
  have hA : DataW.TrodAll enc Try.prog W 0 (fun _ => true) true Try.f9.params.toList args.toList ds p := hA0
  rw [Try.params9] at hA hval
  obtain ⟨v0, d0, rfl, rfl, h0⟩ := trodAll_one hA
  obtain ⟨n0, Z0, A0⟩ := open_PrefixS (hval 0 52 v0 rfl rfl) h0
  refine (lawCountAddrs v0 n0 Z0 W A0).mono fun e W' ⟨he, hw⟩ => ⟨_, he, law_post Try.laidOut (fun u hu => ?_) rfl rfl Try.underlying4 hW' rfl hw⟩
  rw [Try.params9] at hu
  simp at hu
  subst hu
  exact Try.read52

theorem ExactCountAddrs_holds : Rows.FnExactCountAddrsSaid :=
  OpenClaim.holds_of_wide 9 Try.f9 rfl rfl rfl rfl rfl rfl rfl ⟨rfl, rfl, rfl, rfl, rfl⟩ rfl rfl rfl rfl rfl (by kernel_rfl) Try.func9 (by kernel_rfl)
    (of_decide_eq_true (by kernel_rfl)) (by unfold Func.isWrapper; first | (rw [if_pos (by decide +kernel)]; kernel_rfl) | (rw [if_neg (by decide +kernel)]; exact ⟨rfl, rfl⟩))
    (fun os started H enc _ => ExactCountAddrs_lifted os started H enc)

end Go.Proofs.Ytpfeekdmeloakaa
