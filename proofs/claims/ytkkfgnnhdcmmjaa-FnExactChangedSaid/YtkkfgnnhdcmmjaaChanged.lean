/- 'laws.FnExactChanged' answers true for every two graphs and every number, and leaves its arguments as they were; what the program returns is memory of its own. No condition. -/
import Derived.Test.YtkkfgnnhdcmmjaaLChanged
import Derived.Test.YtkkfgnnhdcmmjaaKx
import Derived.Test.YtkkfgnnhdcmmjaaOpen
namespace Go.Proofs.Ytkkfgnnhdcmmjaa
open Go.ChangeShapes Go.WideShapes Go.ChangeAt Go.RowKit Go.Joins


theorem chL_len (N : Int) (L : List Ed) (N' : Int) (L' : List Ed) (x : Int) : (chL N L N' L' x).length ≤ 10 := by
  unfold chL
  split
  · rename_i h
    have := (gok_parts h.1).2.1
    have := chK_len N L L' x N.toNat
    omega
  · simp
theorem lawChanged (x : Int) (v : Value) (n : Nat) (Z : Nat → Int) (x' : Int) (v' : Value) (n' : Nat) (Z' : Nat → Int) (a : Int) (w : World) (_hx : I64 x) (hA : Arg 3 w v n Z) (_hx' : I64 x') (hA' : Arg 3 w v' n' Z') (_ha : I64 a) :
    Calls Try.prog 13 #[.agg #[.int .i64 x, v], .agg #[.int .i64 x', v'], .int .i64 a] w fun e w' => e = .returned (.bool true) ∧ Below w.heap.size w w' := by
  by_cases hn : n ≤ 1048576
  · by_cases hn' : n + n' ≤ 1048576
    · have e : zs Z n 3 = flat (eds Z n) := (flat_eds Z n).symm
      have e' : zs Z' n' 3 = flat (eds Z' n') := (flat_eds Z' n').symm
      have hl := chL_len x (eds Z n) x' (eds Z' n') a
      exact lawExactChanged_fit x v n Z x' v' n' Z' a w hA hA' hn' (chL x (eds Z n) x' (eds Z' n') a).length (chL x (eds Z n) x' (eds Z' n') a) (by omega) (fun lo hi v lo' hi' v' w hr hh hr' hh' => sch_any lo hi n v (eds Z n) x lo' hi' n' v' (eds Z' n') x' a w (eds_len Z n) (e ▸ hr) hh (eds_len Z' n') (e' ▸ hr') hh') (fun lo hi v lo' hi' v' w hr hh hr' hh' => ich_any lo hi n v (eds Z n) x lo' hi' n' v' (eds Z' n') x' a w (eds_len Z n) (e ▸ hr) hh (eds_len Z' n') (e' ▸ hr') hh')
    · exact lawExactChanged_big1 x v n Z x' v' n' Z' a w hA hA' hn (by omega)
  · exact lawExactChanged_big0 x v n Z x' v' n' Z' a w hA hA' (by omega)

set_option maxRecDepth 100000 in
theorem ExactChanged_lifted (os : Os) (started : os.Started) (H : Type) (enc : TypeId × Value → H) :
    ReturnsInHanded {} Try.checked os 13 .any (Rows.fnExactChangedSpec.pre6 enc Try.prog Try.f13 Rows.fnExactChangedRow.domain false) (Rows.fnExactChangedSpec.post enc Try.prog Try.f13 false true false false) := by
  refine returnsInHanded_of_change (C := Try.checked) Try.own started (by kernel_rfl) Try.func13
    (ChangeSpec.witness6 (enc := enc) (C := Try.checked) false ⟨#[], #[.agg #[.int .i64 0, .slice none 0 0], .agg #[.int .i64 0, .slice none 0 0], .int .i64 0], []⟩ 8 (by kernel_rfl) (by kernel_rfl) (by kernel_rfl) (by kernel_rfl)) ?_
  intro W base args ds gs before hval0 hW _ _
  have hval : ∀ (j : Nat) t v, Try.f13.params[j]? = some t → args[j]? = some v → Value.okWide Try.prog W .any base t v := hval0
  have hW' := hW
  obtain ⟨p, q, hA0, _, _, _, _⟩ := hW
  have hA : DataW.TrodAll enc Try.prog W 0 (fun _ => true) true Try.f13.params.toList args.toList ds p := hA0
  rw [Try.params13] at hA hval
  obtain ⟨v0, v1, v2, d0, d1, d2, p0, p1, p2, rfl, rfl, rfl, h0, h1, h2⟩ := trodAll_three hA
  obtain ⟨x0, s0, n0, Z0, rfl, hx0, A0⟩ := open_Graph (hval 0 24 v0 rfl rfl) h0
  obtain ⟨x1, s1, n1, Z1, rfl, hx1, A1⟩ := open_Graph (hval 1 24 v1 rfl rfl) h1
  obtain ⟨a2, rfl, ha2, hb2⟩ := open_num (hval 2 3 v2 rfl rfl) h2
  refine (lawChanged x0 s0 n0 Z0 x1 s1 n1 Z1 a2 W hx0 A0 hx1 A1 ⟨ha2, hb2⟩).mono fun e W' ⟨he, hw⟩ => ⟨_, he, law_post Try.laidOut (fun u hu => ?_) rfl rfl Try.underlying4 hW' rfl hw⟩
  rw [Try.params13] at hu
  simp at hu
  rcases hu with rfl | rfl
  · exact Try.read24
  · exact Try.read3

theorem ExactChanged_holds : Rows.FnExactChangedSaid :=
  OpenClaim.holds_of_wide 13 Try.f13 rfl rfl rfl rfl rfl rfl rfl ⟨rfl, rfl, rfl, rfl, rfl⟩ rfl rfl rfl rfl rfl (by kernel_rfl) Try.func13 (by kernel_rfl)
    (of_decide_eq_true (by kernel_rfl)) (by unfold Func.isWrapper; first | (rw [if_pos (by decide +kernel)]; kernel_rfl) | (rw [if_neg (by decide +kernel)]; exact ⟨rfl, rfl⟩))
    (fun os started H enc _ => ExactChanged_lifted os started H enc)

end Go.Proofs.Ytkkfgnnhdcmmjaa
