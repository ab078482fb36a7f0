/- 'laws.FnExactNextLsa' answers true for every advertisement and all lists of links and of stubs, and leaves its arguments as they were. No condition. -/
import Derived.Test.YtcaoohcfoccedaaLNextLsa
import Derived.Test.YtcaoohcfoccedaaZ4
import Derived.Test.YtcaoohcfoccedaaOpen
namespace Go.Proofs.Ytcaoohcfoccedaa
open Go.ChangeShapes Go.WideShapes Go.ChangeAt Go.RowKit Go.Joins


theorem lawNextLsa (o0 s0 g0 : Int) (u0 v0 : Value) (n0 m0 : Nat) (Y0 Z0 : Nat → Int) (v1 : Value) (n1 : Nat) (Z1 : Nat → Int) (v2 : Value) (n2 : Nat) (Z2 : Nat → Int) (w : World) (_ho0 : I64 o0) (_hs0 : I64 s0) (_hg0 : I64 g0) (hA0 : LArg w u0 v0 n0 m0 Y0 Z0) (hA1 : Arg 2 w v1 n1 Z1) (hA2 : Arg 3 w v2 n2 Z2) :
    Calls Try.prog 10 #[.agg #[.int .i64 o0, .int .i64 s0, .int .i64 g0, u0, v0], v1, v2] w fun e w' => e = .returned (.bool true) ∧ Below w.heap.size w w' := by
  by_cases h0 : n0 + m0 ≤ 1048576
  rotate_left
  · exact lawExactNextLsa_big0 o0 s0 g0 u0 v0 n0 m0 Y0 Z0 v1 n1 Z1 v2 n2 Z2 w hA0 hA1 hA2 (by omega)
  by_cases h1 : n0 + m0 + n1 ≤ 1048576
  rotate_left
  · exact lawExactNextLsa_big1 o0 s0 g0 u0 v0 n0 m0 Y0 Z0 v1 n1 Z1 v2 n2 Z2 w hA0 hA1 hA2 (by omega) (by omega)
  by_cases hn : n0 + m0 + n1 + n2 ≤ 1048576
  rotate_left
  · exact lawExactNextLsa_big2 o0 s0 g0 u0 v0 n0 m0 Y0 Z0 v1 n1 Z1 v2 n2 Z2 w hA0 hA1 hA2 (by omega) (by omega)
  have eY0 : zs Y0 n0 2 = flat2 (lks Y0 n0) := (flat2_lks Y0 n0).symm
  have eZ0 : zs Z0 m0 3 = flat (eds Z0 m0) := (flat_eds Z0 m0).symm
  have eY1 : zs Z1 n1 2 = flat2 (lks Z1 n1) := (flat2_lks Z1 n1).symm
  have eZ2 : zs Z2 n2 3 = flat (eds Z2 n2) := (flat_eds Z2 n2).symm
  cases hb : (lokB o0 s0 g0 (lks Y0 n0) (eds Z0 m0) && lokB o0 (s0 + 1) 0 (lks Z1 n1) (eds Z2 n2))
  · exact lawExactNextLsa_fit o0 s0 g0 u0 v0 n0 m0 Y0 Z0 v1 n1 Z1 v2 n2 Z2 w hA0 hA1 hA2 hn 0 0 0 0 0 [] [] false (by decide) (by decide) (fun lo0 hi0 u v lo1 hi1 v1 lo2 hi2 v2 w hr hh hr1 hh1 hr2 hh2 h12 => snext_no o0 s0 g0 lo0 hi0 n0 m0 lo1 hi1 n1 lo2 hi2 n2 u v v1 v2 (lks Y0 n0) (eds Z0 m0) (lks Z1 n1) (eds Z2 n2) w (lks_len _ _) (eds_len _ _) (lks_len _ _) (eds_len _ _) (eY0 ▸ eZ0 ▸ hr) hh (eY1 ▸ hr1) hh1 (eZ2 ▸ hr2) hh2 h12 (by omega) (by omega) hb) (fun lo0 hi0 u v lo1 hi1 v1 lo2 hi2 v2 w hr hh hr1 hh1 hr2 hh2 h12 => inext_no o0 s0 g0 lo0 hi0 n0 m0 lo1 hi1 n1 lo2 hi2 n2 u v v1 v2 (lks Y0 n0) (eds Z0 m0) (lks Z1 n1) (eds Z2 n2) w (lks_len _ _) (eds_len _ _) (lks_len _ _) (eds_len _ _) (eY0 ▸ eZ0 ▸ hr) hh (eY1 ▸ hr1) hh1 (eZ2 ▸ hr2) hh2 h12 (by omega) (by omega) hb)
  · exact lawExactNextLsa_fit o0 s0 g0 u0 v0 n0 m0 Y0 Z0 v1 n1 Z1 v2 n2 Z2 w hA0 hA1 hA2 hn o0 (s0 + 1) 0 n1 n2 (flat2 (lks Z1 n1)) (flat (eds Z2 n2)) true (by omega) (by omega) (fun lo0 hi0 u v lo1 hi1 v1 lo2 hi2 v2 w hr hh hr1 hh1 hr2 hh2 h12 => snext_yes o0 s0 g0 lo0 hi0 n0 m0 lo1 hi1 n1 lo2 hi2 n2 u v v1 v2 (lks Y0 n0) (eds Z0 m0) (lks Z1 n1) (eds Z2 n2) w (lks_len _ _) (eds_len _ _) (lks_len _ _) (eds_len _ _) (eY0 ▸ eZ0 ▸ hr) hh (eY1 ▸ hr1) hh1 (eZ2 ▸ hr2) hh2 h12 (by omega) (by omega) hb) (fun lo0 hi0 u v lo1 hi1 v1 lo2 hi2 v2 w hr hh hr1 hh1 hr2 hh2 h12 => inext_yes o0 s0 g0 lo0 hi0 n0 m0 lo1 hi1 n1 lo2 hi2 n2 u v v1 v2 (lks Y0 n0) (eds Z0 m0) (lks Z1 n1) (eds Z2 n2) w (lks_len _ _) (eds_len _ _) (lks_len _ _) (eds_len _ _) (eY0 ▸ eZ0 ▸ hr) hh (eY1 ▸ hr1) hh1 (eZ2 ▸ hr2) hh2 h12 (by omega) (by omega) hb)

set_option maxRecDepth 100000 in
theorem ExactNextLsa_lifted (os : Os) (started : os.Started) (H : Type) (enc : TypeId × Value → H) :
    ReturnsInHanded {} Try.checked os 10 .any (Rows.fnExactNextLsaSpec.pre6 enc Try.prog Try.f10 Rows.fnExactNextLsaRow.domain false) (Rows.fnExactNextLsaSpec.post enc Try.prog Try.f10 false true false false) := by
  refine returnsInHanded_of_change (C := Try.checked) Try.own started (by kernel_rfl) Try.func10
    (ChangeSpec.witness6 (enc := enc) (C := Try.checked) false ⟨#[], #[.agg #[.int .i64 0, .int .i64 0, .int .i64 0, .slice none 0 0, .slice none 0 0], .slice none 0 0, .slice none 0 0], []⟩ 8 (by kernel_rfl) (by kernel_rfl) (by kernel_rfl) (by kernel_rfl)) ?_
  intro W base args ds gs before hval0 hW _ _
  have hval : ∀ (j : Nat) t v, Try.f10.params[j]? = some t → args[j]? = some v → Value.okWide Try.prog W .any base t v := hval0
  have hW' := hW
  obtain ⟨p, q, hA0, _, _, _, _⟩ := hW
  have hA : DataW.TrodAll enc Try.prog W 0 (fun _ => true) true Try.f10.params.toList args.toList ds p := hA0
  rw [Try.params10] at hA hval
  obtain ⟨v0, v1, v2, d0, d1, d2, p0, p1, p2, rfl, rfl, rfl, h0, h1, h2⟩ := trodAll_three hA
  obtain ⟨o0, s0, g0, u0, x0, n0, m0, Y0, Z0, rfl, ho0, hs0, hg0, A0⟩ := open_Lsa (hval 0 25 v0 rfl rfl) h0
  obtain ⟨n1, Z1, A1⟩ := open_LinkS (hval 1 22 v1 rfl rfl) h1
  obtain ⟨n2, Z2, A2⟩ := open_StubS (hval 2 23 v2 rfl rfl) h2
  refine (lawNextLsa o0 s0 g0 u0 x0 n0 m0 Y0 Z0 v1 n1 Z1 v2 n2 Z2 W ho0 hs0 hg0 A0 A1 A2).mono fun e W' ⟨he, hw⟩ => ⟨_, he, law_post Try.laidOut (fun u hu => ?_) rfl rfl Try.underlying4 hW' rfl hw⟩
  rw [Try.params10] at hu
  simp at hu
  rcases hu with rfl | rfl | rfl
  · exact Try.read25
  · exact Try.read22
  · exact Try.read23

theorem ExactNextLsa_holds : Rows.FnExactNextLsaSaid :=
  OpenClaim.holds_of_wide 10 Try.f10 rfl rfl rfl rfl rfl rfl rfl ⟨rfl, rfl, rfl, rfl, rfl⟩ rfl rfl rfl rfl rfl (by kernel_rfl) Try.func10 (by kernel_rfl)
    (of_decide_eq_true (by kernel_rfl)) (by unfold Func.isWrapper; first | (rw [if_pos (by decide +kernel)]; kernel_rfl) | (rw [if_neg (by decide +kernel)]; exact ⟨rfl, rfl⟩))
    (fun os started H enc _ => ExactNextLsa_lifted os started H enc)

end Go.Proofs.Ytcaoohcfoccedaa
