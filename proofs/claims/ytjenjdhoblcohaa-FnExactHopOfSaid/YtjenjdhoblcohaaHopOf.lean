/- 'laws.FnExactHopOf' answers true for every graph and both numbers, and leaves its argument as it was. No condition. -/
import Derived.Test.YtjenjdhoblcohaaLHopOf
import Derived.Test.YtjenjdhoblcohaaHo
import Derived.Test.YtjenjdhoblcohaaOb
namespace Go.Proofs.Ytjenjdhoblcohaa
open Go.ChangeShapes Go.WideShapes Go.ChangeAt Go.RowKit Go.Joins


theorem lawHopOf (x : Int) (v : Value) (n : Nat) (Z : Nat → Int) (a b : Int) (w : World) (_hx : I64 x) (hA : Arg 3 w v n Z) (_ha : I64 a) (_hb : I64 b) :
    Calls Try.prog 3 #[.agg #[.int .i64 x, v], .int .i64 a, .int .i64 b] w fun e w' => e = .returned (.bool true) ∧ Below w.heap.size w w' := by
  by_cases hn : n ≤ 1048576
  · have e : zs Z n 3 = flat (eds Z n) := (flat_eds Z n).symm
    exact lawExactHopOf_fit x v n Z a b w hA hn (hopV x (eds Z n) a b) (fun lo hi v w hr hh => shv_any x lo hi n v (eds Z n) a b w (eds_len Z n) (e ▸ hr) hh) (fun lo hi v w hr hh => ihv_any x lo hi n v (eds Z n) a b w (eds_len Z n) (e ▸ hr) hh)
  · exact lawExactHopOf_big0 x v n Z a b w hA (by omega)

set_option maxRecDepth 100000 in
theorem ExactHopOf_lifted (os : Os) (started : os.Started) (H : Type) (enc : TypeId × Value → H) :
    ReturnsInHanded {} Try.checked os 3 .any (Rows.fnExactHopOfSpec.pre6 enc Try.prog Try.f3 Rows.fnExactHopOfRow.domain false) (Rows.fnExactHopOfSpec.post enc Try.prog Try.f3 false true false false) := by
  refine returnsInHanded_of_change (C := Try.checked) Try.own started (by kernel_rfl) Try.func3
    (ChangeSpec.witness6 (enc := enc) (C := Try.checked) false ⟨#[], #[.agg #[.int .i64 0, .slice none 0 0], .int .i64 0, .int .i64 0], []⟩ 8 (by kernel_rfl) (by kernel_rfl) (by kernel_rfl) (by kernel_rfl)) ?_
  intro W base args ds gs before hval0 hW _ _
  have hval : ∀ (j : Nat) t v, Try.f3.params[j]? = some t → args[j]? = some v → Value.okWide Try.prog W .any base t v := hval0
  have hW' := hW
  obtain ⟨p, q, hA0, _, _, _, _⟩ := hW
  have hA : DataW.TrodAll enc Try.prog W 0 (fun _ => true) true Try.f3.params.toList args.toList ds p := hA0
  rw [Try.params3] at hA hval
  obtain ⟨v0, v1, v2, d0, d1, d2, p0, p1, p2, rfl, rfl, rfl, h0, h1, h2⟩ := trodAll_three hA
  obtain ⟨x0, s0, n0, Z0, rfl, hx0, A0⟩ := open_Graph (hval 0 24 v0 rfl rfl) h0
  obtain ⟨a1, rfl, ha1, hb1⟩ := open_num (hval 1 3 v1 rfl rfl) h1
  obtain ⟨a2, rfl, ha2, hb2⟩ := open_num (hval 2 3 v2 rfl rfl) h2
  refine (lawHopOf x0 s0 n0 Z0 a1 a2 W hx0 A0 ⟨ha1, hb1⟩ ⟨ha2, hb2⟩).mono fun e W' ⟨he, hw⟩ => ⟨_, he, law_post Try.laidOut (fun u hu => ?_) rfl rfl Try.underlying4 hW' rfl hw⟩
  rw [Try.params3] at hu
  simp at hu
  rcases hu with rfl | rfl
  · exact Try.read24
  · exact Try.read3

theorem ExactHopOf_holds : Rows.FnExactHopOfSaid :=
  OpenClaim.holds_of_wide 3 Try.f3 rfl rfl rfl rfl rfl rfl rfl ⟨rfl, rfl, rfl, rfl, rfl⟩ rfl rfl rfl rfl rfl (by kernel_rfl) Try.func3 (by kernel_rfl)
    (of_decide_eq_true (by kernel_rfl)) (by unfold Func.isWrapper; first | (rw [if_pos (by decide +kernel)]; kernel_rfl) | (rw [if_neg (by decide +kernel)]; exact ⟨rfl, rfl⟩))
    (fun os started H enc _ => ExactHopOf_lifted os started H enc)

end Go.Proofs.Ytjenjdhoblcohaa
