/- 'laws.FnExactSameWords' answers true for every two advertisements, and leaves its arguments as they were. No condition. -/
import Derived.Test.YtcaoohcfoccedaaLSameWords
import Derived.Test.YtcaoohcfoccedaaY4
import Derived.Test.YtcaoohcfoccedaaOpen
namespace Go.Proofs.Ytcaoohcfoccedaa
open Go.ChangeShapes Go.WideShapes Go.ChangeAt Go.RowKit Go.Joins


theorem lawSameWords (o0 s0 g0 : Int) (u0 v0 : Value) (n0 m0 : Nat) (Y0 Z0 : Nat → Int) (o1 s1 g1 : Int) (u1 v1 : Value) (n1 m1 : Nat) (Y1 Z1 : Nat → Int) (w : World) (_ho0 : I64 o0) (_hs0 : I64 s0) (_hg0 : I64 g0) (hA0 : LArg w u0 v0 n0 m0 Y0 Z0) (_ho1 : I64 o1) (_hs1 : I64 s1) (_hg1 : I64 g1) (hA1 : LArg w u1 v1 n1 m1 Y1 Z1) :
    Calls Try.prog 9 #[.agg #[.int .i64 o0, .int .i64 s0, .int .i64 g0, u0, v0], .agg #[.int .i64 o1, .int .i64 s1, .int .i64 g1, u1, v1]] w fun e w' => e = .returned (.bool true) ∧ Below w.heap.size w w' := by
  by_cases h0 : n0 + m0 ≤ 1048576
  · by_cases hn : n0 + m0 + n1 + m1 ≤ 1048576
    · skip
      have eY0 : zs Y0 n0 2 = flat2 (lks Y0 n0) := (flat2_lks Y0 n0).symm
      have eZ0 : zs Z0 m0 3 = flat (eds Z0 m0) := (flat_eds Z0 m0).symm
      have eY1 : zs Y1 n1 2 = flat2 (lks Y1 n1) := (flat2_lks Y1 n1).symm
      have eZ1 : zs Z1 m1 3 = flat (eds Z1 m1) := (flat_eds Z1 m1).symm
      exact lawExactSameWords_fit o0 s0 g0 u0 v0 n0 m0 Y0 Z0 o1 s1 g1 u1 v1 n1 m1 Y1 Z1 w hA0 hA1 (by omega) (sameB o0 s0 g0 o1 s1 g1 (lks Y0 n0) (eds Z0 m0) (lks Y1 n1) (eds Z1 m1)) (fun lo hi u v lo2 hi2 u2 v2 w hr hh hr2 hh2 => ssame_any o0 s0 g0 o1 s1 g1 lo hi n0 m0 lo2 hi2 n1 m1 u v u2 v2 (lks Y0 n0) (eds Z0 m0) (lks Y1 n1) (eds Z1 m1) w (lks_len _ _) (eds_len _ _) (lks_len _ _) (eds_len _ _) (eY0 ▸ eZ0 ▸ hr) (eY1 ▸ eZ1 ▸ hr2) hh hh2) (fun lo hi u v lo2 hi2 u2 v2 w hr hh hr2 hh2 => isame_any o0 s0 g0 o1 s1 g1 lo hi n0 m0 lo2 hi2 n1 m1 u v u2 v2 (lks Y0 n0) (eds Z0 m0) (lks Y1 n1) (eds Z1 m1) w (lks_len _ _) (eds_len _ _) (lks_len _ _) (eds_len _ _) (eY0 ▸ eZ0 ▸ hr) (eY1 ▸ eZ1 ▸ hr2) hh hh2)
    · exact lawExactSameWords_big1 o0 s0 g0 u0 v0 n0 m0 Y0 Z0 o1 s1 g1 u1 v1 n1 m1 Y1 Z1 w hA0 hA1 (by omega) (by omega)
  · exact lawExactSameWords_big0 o0 s0 g0 u0 v0 n0 m0 Y0 Z0 o1 s1 g1 u1 v1 n1 m1 Y1 Z1 w hA0 hA1 (by omega)

set_option maxRecDepth 100000 in
theorem ExactSameWords_lifted (os : Os) (started : os.Started) (H : Type) (enc : TypeId × Value → H) :
    ReturnsInHanded {} Try.checked os 9 .any (Rows.fnExactSameWordsSpec.pre6 enc Try.prog Try.f9 Rows.fnExactSameWordsRow.domain false) (Rows.fnExactSameWordsSpec.post enc Try.prog Try.f9 false true false false) := by
  refine returnsInHanded_of_change (C := Try.checked) Try.own started (by kernel_rfl) Try.func9
    (ChangeSpec.witness6 (enc := enc) (C := Try.checked) false ⟨#[], #[.agg #[.int .i64 0, .int .i64 0, .int .i64 0, .slice none 0 0, .slice none 0 0], .agg #[.int .i64 0, .int .i64 0, .int .i64 0, .slice none 0 0, .slice none 0 0]], []⟩ 8 (by kernel_rfl) (by kernel_rfl) (by kernel_rfl) (by kernel_rfl)) ?_
  intro W base args ds gs before hval0 hW _ _
  have hval : ∀ (j : Nat) t v, Try.f9.params[j]? = some t → args[j]? = some v → Value.okWide Try.prog W .any base t v := hval0
  have hW' := hW
  obtain ⟨p, q, hA0, _, _, _, _⟩ := hW
  have hA : DataW.TrodAll enc Try.prog W 0 (fun _ => true) true Try.f9.params.toList args.toList ds p := hA0
  rw [Try.params9] at hA hval
  obtain ⟨v0, v1, d0, d1, p0, p1, rfl, rfl, rfl, h0, h1⟩ := trodAll_two hA
  obtain ⟨o0, s0, g0, u0, x0, n0, m0, Y0, Z0, rfl, ho0, hs0, hg0, A0⟩ := open_Lsa (hval 0 25 v0 rfl rfl) h0
  obtain ⟨o1, s1, g1, u1, x1, n1, m1, Y1, Z1, rfl, ho1, hs1, hg1, A1⟩ := open_Lsa (hval 1 25 v1 rfl rfl) h1
  refine (lawSameWords o0 s0 g0 u0 x0 n0 m0 Y0 Z0 o1 s1 g1 u1 x1 n1 m1 Y1 Z1 W ho0 hs0 hg0 A0 ho1 hs1 hg1 A1).mono fun e W' ⟨he, hw⟩ => ⟨_, he, law_post Try.laidOut (fun u hu => ?_) rfl rfl Try.underlying4 hW' rfl hw⟩
  rw [Try.params9] at hu
  simp at hu
  subst hu
  exact Try.read25

theorem ExactSameWords_holds : Rows.FnExactSameWordsSaid :=
  OpenClaim.holds_of_wide 9 Try.f9 rfl rfl rfl rfl rfl rfl rfl ⟨rfl, rfl, rfl, rfl, rfl⟩ rfl rfl rfl rfl rfl (by kernel_rfl) Try.func9 (by kernel_rfl)
    (of_decide_eq_true (by kernel_rfl)) (by unfold Func.isWrapper; first | (rw [if_pos (by decide +kernel)]; kernel_rfl) | (rw [if_neg (by decide +kernel)]; exact ⟨rfl, rfl⟩))
    (fun os started H enc _ => ExactSameWords_lifted os started H enc)

end Go.Proofs.Ytcaoohcfoccedaa
