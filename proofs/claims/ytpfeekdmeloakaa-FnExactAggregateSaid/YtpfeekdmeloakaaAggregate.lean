/- 'laws.FnExactAggregate' answers true for every list of prefixes, of whatever length, and leaves its argument as it was. No condition. -/
import Derived.Test.YtpfeekdmeloakaaLAggregate
import Derived.Test.YtpfeekdmeloakaaSm
import Derived.Test.YtpfeekdmeloakaaOpen
namespace Go.Proofs.Ytpfeekdmeloakaa
open Go.ChangeShapes Go.WideShapes Go.ChangeAt Go.RowKit Go.Joins


theorem lawAggregate (v : Value) (n : Nat) (Z : Nat → Int) (w : World) (hA : Arg 2 w v n Z) :
    Calls Try.prog 8 #[v] w fun e w' => e = .returned (.bool true) ∧ Below w.heap.size w w' := by
  by_cases hn : n ≤ 1048576
  · have e : zs Z n 2 = flat2 (pfs Z n) := (flat2_pfs Z n).symm
    by_cases ha : allOk (pfs Z n) = true
    · obtain ⟨M, hp, hs⟩ := sorted_perm (pfs Z n)
      have ha' := ha
      unfold allOk at ha'
      rw [Bool.and_eq_true, decide_eq_true_eq, List.all_eq_true] at ha'
      have hS := says_mrgs ha'.2 hp hs
      have hl := agg_len hS.1
      exact lawExactAggregate_fit v n Z w hA hn (aggOut (pfs Z n) (mrgs M)).length (flat2 (aggOut (pfs Z n) (mrgs M))) (allOk (pfs Z n)) (by rw [aggOut_yes ha]; omega) (fun lo hi v w hr hh => sagg_any lo hi n v (pfs Z n) (mrgs M) w (pfs_len Z n) (e ▸ hr) hh (by omega) (fun _ => hS)) (fun lo hi v w hr hh => iagg_any lo hi n v (pfs Z n) (mrgs M) w (pfs_len Z n) (e ▸ hr) hh (by omega) (fun _ => hS))
    · exact lawExactAggregate_fit v n Z w hA hn (aggOut (pfs Z n) []).length (flat2 (aggOut (pfs Z n) [])) (allOk (pfs Z n)) (by rw [aggOut_no (by simpa using ha)]; simp) (fun lo hi v w hr hh => sagg_any lo hi n v (pfs Z n) [] w (pfs_len Z n) (e ▸ hr) hh (by omega) (fun h => absurd h ha)) (fun lo hi v w hr hh => iagg_any lo hi n v (pfs Z n) [] w (pfs_len Z n) (e ▸ hr) hh (by omega) (fun h => absurd h ha))
  · exact lawExactAggregate_big0 v n Z w hA (by omega)

set_option maxRecDepth 100000 in
theorem ExactAggregate_lifted (os : Os) (started : os.Started) (H : Type) (enc : TypeId × Value → H) :
    ReturnsInHanded {} Try.checked os 8 .any (Rows.fnExactAggregateSpec.pre6 enc Try.prog Try.f8 Rows.fnExactAggregateRow.domain false) (Rows.fnExactAggregateSpec.post enc Try.prog Try.f8 false true false false) := by
  refine returnsInHanded_of_change (C := Try.checked) Try.own started (by kernel_rfl) Try.func8
    (ChangeSpec.witness6 (enc := enc) (C := Try.checked) false ⟨#[], #[.slice none 0 0], []⟩ 8 (by kernel_rfl) (by kernel_rfl) (by kernel_rfl) (by kernel_rfl)) ?_
  intro W base args ds gs before hval0 hW _ _
  have hval : ∀ (j : Nat) t v, Try.f8.params[j]? = some t → args[j]? = some v → Value.okWide Try.prog W .any base t v := hval0
  have hW' := hW
  obtain ⟨p, q, hA0, _, _, _, _⟩ := hW
  have hA : DataW.TrodAll enc Try.prog W 0 (fun _ => true) true Try.f8.params.toList args.toList ds p := hA0
  rw [Try.params8] at hA hval
  obtain ⟨v0, d0, rfl, rfl, h0⟩ := trodAll_one hA
  obtain ⟨n0, Z0, A0⟩ := open_PrefixS (hval 0 52 v0 rfl rfl) h0
  refine (lawAggregate v0 n0 Z0 W A0).mono fun e W' ⟨he, hw⟩ => ⟨_, he, law_post Try.laidOut (fun u hu => ?_) rfl rfl Try.underlying4 hW' rfl hw⟩
  rw [Try.params8] at hu
  simp at hu
  subst hu
  exact Try.read52

theorem ExactAggregate_holds : Rows.FnExactAggregateSaid :=
  OpenClaim.holds_of_wide 8 Try.f8 rfl rfl rfl rfl rfl rfl rfl ⟨rfl, rfl, rfl, rfl, rfl⟩ rfl rfl rfl rfl rfl (by kernel_rfl) Try.func8 (by kernel_rfl)
    (of_decide_eq_true (by kernel_rfl)) (by unfold Func.isWrapper; first | (rw [if_pos (by decide +kernel)]; kernel_rfl) | (rw [if_neg (by decide +kernel)]; exact ⟨rfl, rfl⟩))
    (fun os started H enc _ => ExactAggregate_lifted os started H enc)

end Go.Proofs.Ytpfeekdmeloakaa
