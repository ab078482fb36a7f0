/- 'laws.FnExactFindHop' answers true for every table, of whatever length, and every number, and leaves its arguments as they were. No condition. -/
import Derived.Test.YtpfeekdmeloakaaLFindHop
import Derived.Test.YtpfeekdmeloakaaBl
import Derived.Test.YtpfeekdmeloakaaOpen
namespace Go.Proofs.Ytpfeekdmeloakaa
open Go.ChangeShapes Go.WideShapes Go.ChangeAt Go.RowKit Go.Joins


theorem lawFindHop (v : Value) (n : Nat) (Z : Nat → Int) (a : Int) (w : World) (hA : Arg 3 w v n Z) (_ : -9223372036854775808 ≤ a ∧ a ≤ 9223372036854775807) :
    Calls Try.prog 6 #[.agg #[v], .int .i64 a] w fun e w' => e = .returned (.bool true) ∧ Below w.heap.size w w' := by
  by_cases hn : n ≤ 1048576
  · have e : zs Z n 3 = flat (rts Z n) := (flat_rts Z n).symm
    exact lawExactFindHop_fit v n Z a w hA hn (hopO (bestO (rts Z n) a)) (fun lo hi v w hr hh => shop_any lo hi n v (rts Z n) a w (rts_len Z n) (e ▸ hr) hh) (fun lo hi v w hr hh => ihop_any lo hi n v (rts Z n) a w (rts_len Z n) (e ▸ hr) hh)
  · exact lawExactFindHop_big0 v n Z a w hA (by omega)

set_option maxRecDepth 100000 in
theorem ExactFindHop_lifted (os : Os) (started : os.Started) (H : Type) (enc : TypeId × Value → H) :
    ReturnsInHanded {} Try.checked os 6 .any (Rows.fnExactFindHopSpec.pre6 enc Try.prog Try.f6 Rows.fnExactFindHopRow.domain false) (Rows.fnExactFindHopSpec.post enc Try.prog Try.f6 false true false false) := by
  refine returnsInHanded_of_change (C := Try.checked) Try.own started (by kernel_rfl) Try.func6
    (ChangeSpec.witness6 (enc := enc) (C := Try.checked) false ⟨#[], #[.agg #[.slice none 0 0], .int .i64 0], []⟩ 8 (by kernel_rfl) (by kernel_rfl) (by kernel_rfl) (by kernel_rfl)) ?_
  intro W base args ds gs before hval0 hW _ _
  have hval : ∀ (j : Nat) t v, Try.f6.params[j]? = some t → args[j]? = some v → Value.okWide Try.prog W .any base t v := hval0
  have hW' := hW
  obtain ⟨p, q, hA0, _, _, _, _⟩ := hW
  have hA : DataW.TrodAll enc Try.prog W 0 (fun _ => true) true Try.f6.params.toList args.toList ds p := hA0
  rw [Try.params6] at hA hval
  obtain ⟨v0, v1, d0, d1, p0, p1, rfl, rfl, rfl, h0, h1⟩ := trodAll_two hA
  obtain ⟨s0, n0, Z0, rfl, A0⟩ := open_Table (hval 0 24 v0 rfl rfl) h0
  obtain ⟨a1, rfl, ha1, hb1⟩ := open_num (hval 1 3 v1 rfl rfl) h1
  refine (lawFindHop s0 n0 Z0 a1 W A0 ⟨ha1, hb1⟩).mono fun e W' ⟨he, hw⟩ => ⟨_, he, law_post Try.laidOut (fun u hu => ?_) rfl rfl Try.underlying4 hW' rfl hw⟩
  rw [Try.params6] at hu
  simp at hu
  rcases hu with rfl | rfl
  · exact Try.read24
  · exact Try.read3

theorem ExactFindHop_holds : Rows.FnExactFindHopSaid :=
  OpenClaim.holds_of_wide 6 Try.f6 rfl rfl rfl rfl rfl rfl rfl ⟨rfl, rfl, rfl, rfl, rfl⟩ rfl rfl rfl rfl rfl (by kernel_rfl) Try.func6 (by kernel_rfl)
    (of_decide_eq_true (by kernel_rfl)) (by unfold Func.isWrapper; first | (rw [if_pos (by decide +kernel)]; kernel_rfl) | (rw [if_neg (by decide +kernel)]; exact ⟨rfl, rfl⟩))
    (fun os started H enc _ => ExactFindHop_lifted os started H enc)

end Go.Proofs.Ytpfeekdmeloakaa
