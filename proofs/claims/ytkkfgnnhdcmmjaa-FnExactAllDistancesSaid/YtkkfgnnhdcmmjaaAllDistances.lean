/- 'laws.FnExactAllDistances' answers true for every graph, and leaves its argument as it was; what the program returns is memory of its own. No condition. -/
import Derived.Test.YtkkfgnnhdcmmjaaLAllDistances
import Derived.Test.YtkkfgnnhdcmmjaaAt
import Derived.Test.YtkkfgnnhdcmmjaaOpen
namespace Go.Proofs.Ytkkfgnnhdcmmjaa
open Go.ChangeShapes Go.WideShapes Go.ChangeAt Go.RowKit Go.Joins


theorem offX_le {ZZ : Nat → List Int} (h : ∀ i, (ZZ i).length ≤ 10) : ∀ n, offX ZZ n ≤ n * 10
  | 0 => Nat.le_refl _
  | n + 1 => by have := offX_le h n; have := h n; show offX ZZ n + (ZZ n).length ≤ _; omega
theorem adZ_le (N : Int) (L : List Ed) (i : Nat) : (adZ N L i).length ≤ 10 := by unfold adZ distL; rw [tabI_len]; exact distN_le
theorem adN_le (N : Int) (L : List Ed) : adN N L ≤ 10 := by
  unfold adN
  split
  · rename_i h
    have := (gok_parts h).2.1
    omega
  · omega
theorem lawAllDistances (x : Int) (v : Value) (n : Nat) (Z : Nat → Int) (w : World) (_hx : I64 x) (hA : Arg 3 w v n Z) :
    Calls Try.prog 4 #[.agg #[.int .i64 x, v]] w fun e w' => e = .returned (.bool true) ∧ Below w.heap.size w w' := by
  by_cases hn : n ≤ 1048576
  · have e : zs Z n 3 = flat (eds Z n) := (flat_eds Z n).symm
    have hl := adN_le x (eds Z n)
    have ht : offX (adZ x (eds Z n)) (adN x (eds Z n)) ≤ 1000000 := by have := offX_le (adZ_le x (eds Z n)) (adN x (eds Z n)); omega
    refine lawExactAllDistances_fit x v n Z w hA hn (adN x (eds Z n)) (adZ x (eds Z n)) ht (fun lo hi v w hr hh => ?_) (fun lo hi v w hr hh => ?_)
    · refine (sad_any x lo hi n v (eds Z n) w (eds_len Z n) (e ▸ hr) hh).mono ?_
      rintro e w' ⟨rv, h1, h2⟩
      refine ⟨rv, h1, h2.rowX (by omega), ?_⟩
      obtain ⟨_, _, h⟩ := h2
      exact h.below
    · refine (iad_any x lo hi n v (eds Z n) w (eds_len Z n) (e ▸ hr) hh).mono ?_
      rintro e w' ⟨rv, h1, h2⟩
      refine ⟨rv, h1, h2.rowX (by omega), ?_⟩
      obtain ⟨_, _, h⟩ := h2
      exact h.below
  · exact lawExactAllDistances_big0 x v n Z w hA (by omega)

set_option maxRecDepth 100000 in
theorem ExactAllDistances_lifted (os : Os) (started : os.Started) (H : Type) (enc : TypeId × Value → H) :
    ReturnsInHanded {} Try.checked os 4 .any (Rows.fnExactAllDistancesSpec.pre6 enc Try.prog Try.f4 Rows.fnExactAllDistancesRow.domain false) (Rows.fnExactAllDistancesSpec.post enc Try.prog Try.f4 false true false false) := by
  refine returnsInHanded_of_change (C := Try.checked) Try.own started (by kernel_rfl) Try.func4
    (ChangeSpec.witness6 (enc := enc) (C := Try.checked) false ⟨#[], #[.agg #[.int .i64 0, .slice none 0 0]], []⟩ 8 (by kernel_rfl) (by kernel_rfl) (by kernel_rfl) (by kernel_rfl)) ?_
  intro W base args ds gs before hval0 hW _ _
  have hval : ∀ (j : Nat) t v, Try.f4.params[j]? = some t → args[j]? = some v → Value.okWide Try.prog W .any base t v := hval0
  have hW' := hW
  obtain ⟨p, q, hA0, _, _, _, _⟩ := hW
  have hA : DataW.TrodAll enc Try.prog W 0 (fun _ => true) true Try.f4.params.toList args.toList ds p := hA0
  rw [Try.params4] at hA hval
  obtain ⟨v0, d0, rfl, rfl, h0⟩ := trodAll_one hA
  obtain ⟨x0, s0, n0, Z0, rfl, hx0, A0⟩ := open_Graph (hval 0 24 v0 rfl rfl) h0
  refine (lawAllDistances x0 s0 n0 Z0 W hx0 A0).mono fun e W' ⟨he, hw⟩ => ⟨_, he, law_post Try.laidOut (fun u hu => ?_) rfl rfl Try.underlying4 hW' rfl hw⟩
  rw [Try.params4] at hu
  simp at hu
  subst hu
  exact Try.read24

theorem ExactAllDistances_holds : Rows.FnExactAllDistancesSaid :=
  OpenClaim.holds_of_wide 4 Try.f4 rfl rfl rfl rfl rfl rfl rfl ⟨rfl, rfl, rfl, rfl, rfl⟩ rfl rfl rfl rfl rfl (by kernel_rfl) Try.func4 (by kernel_rfl)
    (of_decide_eq_true (by kernel_rfl)) (by unfold Func.isWrapper; first | (rw [if_pos (by decide +kernel)]; kernel_rfl) | (rw [if_neg (by decide +kernel)]; exact ⟨rfl, rfl⟩))
    (fun os started H enc _ => ExactAllDistances_lifted os started H enc)

end Go.Proofs.Ytkkfgnnhdcmmjaa
