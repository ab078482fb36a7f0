/- 'laws.FnExactSafeOrder' answers true for every graph and every number, and leaves its argument as it was; what the program returns is memory of its own. No condition. -/
import Derived.Test.YtjenjdhoblcohaaLSafeOrder
import Derived.Test.YtjenjdhoblcohaaOv
import Derived.Test.YtjenjdhoblcohaaOb
namespace Go.Proofs.Ytjenjdhoblcohaa
open Go.ChangeShapes Go.WideShapes Go.ChangeAt Go.RowKit Go.Joins


theorem lawSafeOrder (x : Int) (v : Value) (n : Nat) (Z : Nat → Int) (d : Int) (w : World) (_hx : I64 x) (hA : Arg 3 w v n Z) (_hd : I64 d) :
    Calls Try.prog 6 #[.agg #[.int .i64 x, v], .int .i64 d] w fun e w' => e = .returned (.bool true) ∧ Below w.heap.size w w' := by
  by_cases hn : n ≤ 1048576
  · have e : zs Z n 3 = flat (eds Z n) := (flat_eds Z n).symm
    have hl := safeL_len x (eds Z n) d
    exact lawExactSafeOrder_fit x v n Z d w hA hn (safeL x (eds Z n) d).length (safeL x (eds Z n) d) (by omega) (fun lo hi v w hr hh => ssafe_any x lo hi n v (eds Z n) d w (eds_len Z n) (e ▸ hr) hh) (fun lo hi v w hr hh => isafe_any x lo hi n v (eds Z n) d w (eds_len Z n) (e ▸ hr) hh)
  · exact lawExactSafeOrder_big0 x v n Z d w hA (by omega)

set_option maxRecDepth 100000 in
theorem ExactSafeOrder_lifted (os : Os) (started : os.Started) (H : Type) (enc : TypeId × Value → H) :
    ReturnsInHanded {} Try.checked os 6 .any (Rows.fnExactSafeOrderSpec.pre6 enc Try.prog Try.f6 Rows.fnExactSafeOrderRow.domain false) (Rows.fnExactSafeOrderSpec.post enc Try.prog Try.f6 false true false false) := by
  refine returnsInHanded_of_change (C := Try.checked) Try.own started (by kernel_rfl) Try.func6
    (ChangeSpec.witness6 (enc := enc) (C := Try.checked) false ⟨#[], #[.agg #[.int .i64 0, .slice none 0 0], .int .i64 0], []⟩ 8 (by kernel_rfl) (by kernel_rfl) (by kernel_rfl) (by kernel_rfl)) ?_
  intro W base args ds gs before hval0 hW _ _
  have hval : ∀ (j : Nat) t v, Try.f6.params[j]? = some t → args[j]? = some v → Value.okWide Try.prog W .any base t v := hval0
  have hW' := hW
  obtain ⟨p, q, hA0, _, _, _, _⟩ := hW
  have hA : DataW.TrodAll enc Try.prog W 0 (fun _ => true) true Try.f6.params.toList args.toList ds p := hA0
  rw [Try.params6] at hA hval
  obtain ⟨v0, v1, d0, d1, p0, p1, rfl, rfl, rfl, h0, h1⟩ := trodAll_two hA
  obtain ⟨x0, s0, n0, Z0, rfl, hx0, A0⟩ := open_Graph (hval 0 24 v0 rfl rfl) h0
  obtain ⟨a1, rfl, ha1, hb1⟩ := open_num (hval 1 3 v1 rfl rfl) h1
  refine (lawSafeOrder x0 s0 n0 Z0 a1 W hx0 A0 ⟨ha1, hb1⟩).mono fun e W' ⟨he, hw⟩ => ⟨_, he, law_post Try.laidOut (fun u hu => ?_) rfl rfl Try.underlying4 hW' rfl hw⟩
  rw [Try.params6] at hu
  simp at hu
  rcases hu with rfl | rfl
  · exact Try.read24
  · exact Try.read3

theorem ExactSafeOrder_holds : Rows.FnExactSafeOrderSaid :=
  OpenClaim.holds_of_wide 6 Try.f6 rfl rfl rfl rfl rfl rfl rfl ⟨rfl, rfl, rfl, rfl, rfl⟩ rfl rfl rfl rfl rfl (by kernel_rfl) Try.func6 (by kernel_rfl)
    (of_decide_eq_true (by kernel_rfl)) (by unfold Func.isWrapper; first | (rw [if_pos (by decide +kernel)]; kernel_rfl) | (rw [if_neg (by decide +kernel)]; exact ⟨rfl, rfl⟩))
    (fun os started H enc _ => ExactSafeOrder_lifted os started H enc)

end Go.Proofs.Ytjenjdhoblcohaa
