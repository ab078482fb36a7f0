/- 'laws.FnExactAgeLsa' answers true for every advertisement and every number, and leaves its arguments as they were. No condition. -/
import Derived.Test.YtcaoohcfoccedaaLAgeLsa
import Derived.Test.YtcaoohcfoccedaaZ3
import Derived.Test.YtcaoohcfoccedaaOpen
namespace Go.Proofs.Ytcaoohcfoccedaa
open Go.ChangeShapes Go.WideShapes Go.ChangeAt Go.RowKit Go.Joins


theorem lawAgeLsa (o0 s0 g0 : Int) (u0 v0 : Value) (n0 m0 : Nat) (Y0 Z0 : Nat → Int) (a1 : Int) (w : World) (_ho0 : I64 o0) (_hs0 : I64 s0) (_hg0 : I64 g0) (hA0 : LArg w u0 v0 n0 m0 Y0 Z0) (_ha : I64 a1) :
    Calls Try.prog 8 #[.agg #[.int .i64 o0, .int .i64 s0, .int .i64 g0, u0, v0], .int .i64 a1] w fun e w' => e = .returned (.bool true) ∧ Below w.heap.size w w' := by
  by_cases hn : n0 + m0 ≤ 1048576
  · skip
    have eY0 : zs Y0 n0 2 = flat2 (lks Y0 n0) := (flat2_lks Y0 n0).symm
    have eZ0 : zs Z0 m0 3 = flat (eds Z0 m0) := (flat_eds Z0 m0).symm
    exact lawExactAgeLsa_fit o0 s0 g0 u0 v0 n0 m0 Y0 Z0 a1 w hA0 hn o0 s0 (agV o0 s0 g0 a1 (lks Y0 n0) (eds Z0 m0)) n0 m0 (flat2 (lks Y0 n0)) (flat (eds Z0 m0)) (agB o0 s0 g0 a1 (lks Y0 n0) (eds Z0 m0)) (by omega) (by omega) (fun lo hi u v w hr hh => sage_any o0 s0 g0 a1 lo hi n0 m0 u v (lks Y0 n0) (eds Z0 m0) w (lks_len _ _) (eds_len _ _) (eY0 ▸ eZ0 ▸ hr) hh (by omega) (by omega)) (fun lo hi u v w hr hh => iage_any o0 s0 g0 a1 lo hi n0 m0 u v (lks Y0 n0) (eds Z0 m0) w (lks_len _ _) (eds_len _ _) (eY0 ▸ eZ0 ▸ hr) hh (by omega) (by omega))
  · exact lawExactAgeLsa_big0 o0 s0 g0 u0 v0 n0 m0 Y0 Z0 a1 w hA0 (by omega)

set_option maxRecDepth 100000 in
theorem ExactAgeLsa_lifted (os : Os) (started : os.Started) (H : Type) (enc : TypeId × Value → H) :
    ReturnsInHanded {} Try.checked os 8 .any (Rows.fnExactAgeLsaSpec.pre6 enc Try.prog Try.f8 Rows.fnExactAgeLsaRow.domain false) (Rows.fnExactAgeLsaSpec.post enc Try.prog Try.f8 false true false false) := by
  refine returnsInHanded_of_change (C := Try.checked) Try.own started (by kernel_rfl) Try.func8
    (ChangeSpec.witness6 (enc := enc) (C := Try.checked) false ⟨#[], #[.agg #[.int .i64 0, .int .i64 0, .int .i64 0, .slice none 0 0, .slice none 0 0], .int .i64 0], []⟩ 8 (by kernel_rfl) (by kernel_rfl) (by kernel_rfl) (by kernel_rfl)) ?_
  intro W base args ds gs before hval0 hW _ _
  have hval : ∀ (j : Nat) t v, Try.f8.params[j]? = some t → args[j]? = some v → Value.okWide Try.prog W .any base t v := hval0
  have hW' := hW
  obtain ⟨p, q, hA0, _, _, _, _⟩ := hW
  have hA : DataW.TrodAll enc Try.prog W 0 (fun _ => true) true Try.f8.params.toList args.toList ds p := hA0
  rw [Try.params8] at hA hval
  obtain ⟨v0, v1, d0, d1, p0, p1, rfl, rfl, rfl, h0, h1⟩ := trodAll_two hA
  obtain ⟨o0, s0, g0, u0, x0, n0, m0, Y0, Z0, rfl, ho0, hs0, hg0, A0⟩ := open_Lsa (hval 0 25 v0 rfl rfl) h0
  obtain ⟨a1, rfl, ha1, hb1⟩ := open_num (hval 1 3 v1 rfl rfl) h1
  refine (lawAgeLsa o0 s0 g0 u0 x0 n0 m0 Y0 Z0 a1 W ho0 hs0 hg0 A0 ⟨ha1, hb1⟩).mono fun e W' ⟨he, hw⟩ => ⟨_, he, law_post Try.laidOut (fun u hu => ?_) rfl rfl Try.underlying4 hW' rfl hw⟩
  rw [Try.params8] at hu
  simp at hu
  rcases hu with rfl | rfl
  · exact Try.read25
  · exact Try.read3

theorem ExactAgeLsa_holds : Rows.FnExactAgeLsaSaid :=
  OpenClaim.holds_of_wide 8 Try.f8 rfl rfl rfl rfl rfl rfl rfl ⟨rfl, rfl, rfl, rfl, rfl⟩ rfl rfl rfl rfl rfl (by kernel_rfl) Try.func8 (by kernel_rfl)
    (of_decide_eq_true (by kernel_rfl)) (by unfold Func.isWrapper; first | (rw [if_pos (by decide +kernel)]; kernel_rfl) | (rw [if_neg (by decide +kernel)]; exact ⟨rfl, rfl⟩))
    (fun os started H enc _ => ExactAgeLsa_lifted os started H enc)

end Go.Proofs.Ytcaoohcfoccedaa
