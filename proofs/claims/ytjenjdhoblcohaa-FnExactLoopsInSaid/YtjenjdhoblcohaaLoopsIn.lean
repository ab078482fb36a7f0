/- 'laws.FnExactLoopsIn' answers true for every list of numbers, of whatever length, and every number, and leaves its argument as it was; what the program returns is memory of its own. No condition. -/
import Derived.Test.YtjenjdhoblcohaaLLoopsIn
import Derived.Test.YtjenjdhoblcohaaLq
import Derived.Test.YtjenjdhoblcohaaOb
namespace Go.Proofs.Ytjenjdhoblcohaa
open Go.ChangeShapes Go.WideShapes Go.ChangeAt Go.RowKit Go.Joins


theorem lawLoopsIn (v : Value) (n : Nat) (Z : Nat → Int) (d : Int) (w : World) (hA : Arg 1 w v n Z) (_hd : I64 d) :
    Calls Try.prog 5 #[v, .int .i64 d] w fun e w' => e = .returned (.bool true) ∧ Below w.heap.size w w' := by
  by_cases hn : n ≤ 1048576
  · have hl := loopsL_len (zs Z n 1) d
    exact lawExactLoopsIn_fit v n Z d w hA (by omega) hn (loopsL (zs Z n 1) d).length (loopsL (zs Z n 1) d) (by omega) (fun lo hi v w hr hh => sloops_any _ lo hi n v d w hr hh) (fun lo hi v w hr hh => iloops_any _ lo hi n v d w hr hh)
  · exact lawExactLoopsIn_big0 v n Z d w hA (by omega)

set_option maxRecDepth 100000 in
theorem ExactLoopsIn_lifted (os : Os) (started : os.Started) (H : Type) (enc : TypeId × Value → H) :
    ReturnsInHanded {} Try.checked os 5 .any (Rows.fnExactLoopsInSpec.pre6 enc Try.prog Try.f5 Rows.fnExactLoopsInRow.domain false) (Rows.fnExactLoopsInSpec.post enc Try.prog Try.f5 false true false false) := by
  refine returnsInHanded_of_change (C := Try.checked) Try.own started (by kernel_rfl) Try.func5
    (ChangeSpec.witness6 (enc := enc) (C := Try.checked) false ⟨#[], #[.slice none 0 0, .int .i64 0], []⟩ 8 (by kernel_rfl) (by kernel_rfl) (by kernel_rfl) (by kernel_rfl)) ?_
  intro W base args ds gs before hval0 hW _ _
  have hval : ∀ (j : Nat) t v, Try.f5.params[j]? = some t → args[j]? = some v → Value.okWide Try.prog W .any base t v := hval0
  have hW' := hW
  obtain ⟨p, q, hA0, _, _, _, _⟩ := hW
  have hA : DataW.TrodAll enc Try.prog W 0 (fun _ => true) true Try.f5.params.toList args.toList ds p := hA0
  rw [Try.params5] at hA hval
  obtain ⟨v0, v1, d0, d1, p0, p1, rfl, rfl, rfl, h0, h1⟩ := trodAll_two hA
  obtain ⟨n0, Z0, A0⟩ := open_intS (hval 0 33 v0 rfl rfl) h0
  obtain ⟨a1, rfl, ha1, hb1⟩ := open_num (hval 1 3 v1 rfl rfl) h1
  refine (lawLoopsIn v0 n0 Z0 a1 W A0 ⟨ha1, hb1⟩).mono fun e W' ⟨he, hw⟩ => ⟨_, he, law_post Try.laidOut (fun u hu => ?_) rfl rfl Try.underlying4 hW' rfl hw⟩
  rw [Try.params5] at hu
  simp at hu
  rcases hu with rfl | rfl
  · exact Try.read33
  · exact Try.read3

theorem ExactLoopsIn_holds : Rows.FnExactLoopsInSaid :=
  OpenClaim.holds_of_wide 5 Try.f5 rfl rfl rfl rfl rfl rfl rfl ⟨rfl, rfl, rfl, rfl, rfl⟩ rfl rfl rfl rfl rfl (by kernel_rfl) Try.func5 (by kernel_rfl)
    (of_decide_eq_true (by kernel_rfl)) (by unfold Func.isWrapper; first | (rw [if_pos (by decide +kernel)]; kernel_rfl) | (rw [if_neg (by decide +kernel)]; exact ⟨rfl, rfl⟩))
    (fun os started H enc _ => ExactLoopsIn_lifted os started H enc)

end Go.Proofs.Ytjenjdhoblcohaa
