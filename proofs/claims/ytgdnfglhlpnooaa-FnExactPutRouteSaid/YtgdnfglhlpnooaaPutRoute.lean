/- 'laws.FnExactPutRoute' answers true for every table, of whatever length, and every route, and leaves its arguments as they were; what the program returns is memory of its own. No condition. -/
import Derived.Test.YtgdnfglhlpnooaaLPutRoute
import Derived.Test.YtgdnfglhlpnooaaPj
import Derived.Test.YtgdnfglhlpnooaaOpen
namespace Go.Proofs.Ytgdnfglhlpnooaa
open Go.ChangeShapes Go.WideShapes Go.ChangeAt Go.RowKit Go.Joins


theorem lawPutRoute (s : Value) (n : Nat) (Z : Nat → Int) (z0 z1 z2 : Int) (w : World) (hA : Arg 3 w s n Z) (_h0 : I64 z0) (_h1 : I64 z1) (_h2 : I64 z2) :
    Calls Try.prog 4 #[.agg #[s], .agg #[.int .i64 z0, .int .i64 z1, .int .i64 z2]] w fun e w' => e = .returned (.bool true) ∧ Below w.heap.size w w' := by
  by_cases hn : n ≤ 1048576
  · have e : zs Z n 3 = flat (rts Z n) := (flat_rts Z n).symm
    have hl : (putL (rts Z n) (z0, z1, z2)).length ≤ 1100000 := by have := putL_len (rts Z n) (z0, z1, z2); rw [rts_len] at this; omega
    exact lawExactPutRoute_fit s n Z z0 z1 z2 w hA hn (putL (rts Z n) (z0, z1, z2)).length (flat (putL (rts Z n) (z0, z1, z2))) (putB (rts Z n) (z0, z1, z2)) hl (fun lo hi v w hr hh => sput_any lo hi n v (rts Z n) z0 z1 z2 w (rts_len Z n) (e ▸ hr) hh) (fun lo hi v w hr hh => iput_any lo hi n v (rts Z n) z0 z1 z2 w (rts_len Z n) (e ▸ hr) hh)
  · exact lawExactPutRoute_big0 s n Z z0 z1 z2 w hA (by omega)

set_option maxRecDepth 100000 in
theorem ExactPutRoute_lifted (os : Os) (started : os.Started) (H : Type) (enc : TypeId × Value → H) :
    ReturnsInHanded {} Try.checked os 4 .any (Rows.fnExactPutRouteSpec.pre6 enc Try.prog Try.f4 Rows.fnExactPutRouteRow.domain false) (Rows.fnExactPutRouteSpec.post enc Try.prog Try.f4 false true false false) := by
  refine returnsInHanded_of_change (C := Try.checked) Try.own started (by kernel_rfl) Try.func4
    (ChangeSpec.witness6 (enc := enc) (C := Try.checked) false ⟨#[], #[.agg #[.slice none 0 0], .agg #[.int .i64 0, .int .i64 0, .int .i64 0]], []⟩ 8 (by kernel_rfl) (by kernel_rfl) (by kernel_rfl) (by kernel_rfl)) ?_
  intro W base args ds gs before hval0 hW _ _
  have hval : ∀ (j : Nat) t v, Try.f4.params[j]? = some t → args[j]? = some v → Value.okWide Try.prog W .any base t v := hval0
  have hW' := hW
  obtain ⟨p, q, hA0, _, _, _, _⟩ := hW
  have hA : DataW.TrodAll enc Try.prog W 0 (fun _ => true) true Try.f4.params.toList args.toList ds p := hA0
  rw [Try.params4] at hA hval
  obtain ⟨v0, v1, d0, d1, p0, p1, rfl, rfl, rfl, h0, h1⟩ := trodAll_two hA
  obtain ⟨s0, n0, Z0, rfl, A0⟩ := open_Table (hval 0 24 v0 rfl rfl) h0
  obtain ⟨z1_0, z1_1, z1_2, rfl, iz1_0, iz1_1, iz1_2⟩ := open_Route (hval 1 40 v1 rfl rfl) h1
  refine (lawPutRoute s0 n0 Z0 z1_0 z1_1 z1_2 W A0 iz1_0 iz1_1 iz1_2).mono fun e W' ⟨he, hw⟩ => ⟨_, he, law_post Try.laidOut (fun u hu => ?_) rfl rfl Try.underlying4 hW' rfl hw⟩
  rw [Try.params4] at hu
  simp at hu
  rcases hu with rfl | rfl
  · exact Try.read24
  · exact Try.read40

theorem ExactPutRoute_holds : Rows.FnExactPutRouteSaid :=
  OpenClaim.holds_of_wide 4 Try.f4 rfl rfl rfl rfl rfl rfl rfl ⟨rfl, rfl, rfl, rfl, rfl⟩ rfl rfl rfl rfl rfl (by kernel_rfl) Try.func4 (by kernel_rfl)
    (of_decide_eq_true (by kernel_rfl)) (by unfold Func.isWrapper; first | (rw [if_pos (by decide +kernel)]; kernel_rfl) | (rw [if_neg (by decide +kernel)]; exact ⟨rfl, rfl⟩))
    (fun os started H enc _ => ExactPutRoute_lifted os started H enc)

end Go.Proofs.Ytgdnfglhlpnooaa
