/- 'laws.FnExactAddKey' answers true for every sketch, of whatever size, every key and every number, and leaves its argument as it was; what the program returns is memory of its own. No condition. -/
import Derived.Test.YtophppnllkadoaaLAddKey
import Derived.Test.YtophppnllkadoaaK18
import Derived.Test.YtophppnllkadoaaKo
namespace Go.Proofs.Ytophppnllkadoaa
open Go.ChangeShapes Go.WideShapes Go.ChangeAt Go.RowKit Go.Joins


theorem akD_tot {t key num : Int} {D : List (List Int)} (hd : ttot D ≤ 1048576) : rtot (akD t D key num) ≤ 1100000 := by
  unfold akD
  split
  · exact rtot_mat _
  · unfold ttot at hd; omega
theorem lawAddKey (s : Value) (t : Int) (D : List (List Int)) (key num : Int) (w : World) (hA : TArg w s D) (ht : I64 t) (_hk : I64 key) (_hm : I64 num) :
    Calls Try.prog 8 #[.agg #[s, .int .i64 t], .int .i64 key, .int .i64 num] w fun e w' => e = .returned (.bool true) ∧ Below w.heap.size w w' := by
  by_cases hd : ttot D ≤ 1048576
  · exact lawExactAddKey_fit s t key num D.length D w hA rfl hd (akD t D key num).length (akT t D key num) (akD t D key num) (akB t D key num) (akD_tot hd) (fun lo hi v w hr hh => sak_any0 lo hi _ v t D w hr hh ht key num) (fun lo hi v w hr hh => iak_any0 lo hi _ v t D w hr hh ht key num)
  · exact lawExactAddKey_big s t key num D.length D w hA rfl (by omega)

set_option maxRecDepth 100000 in
theorem ExactAddKey_lifted (os : Os) (started : os.Started) (H : Type) (enc : TypeId × Value → H) :
    ReturnsInHanded {} Try.checked os 8 .any (Rows.fnExactAddKeySpec.pre6 enc Try.prog Try.f8 Rows.fnExactAddKeyRow.domain false) (Rows.fnExactAddKeySpec.post enc Try.prog Try.f8 false true false false) := by
  refine returnsInHanded_of_change (C := Try.checked) Try.own started (by kernel_rfl) Try.func8
    (ChangeSpec.witness6 (enc := enc) (C := Try.checked) false ⟨#[], #[.agg #[.slice none 0 0, .int .i64 0], .int .i64 0, .int .i64 0], []⟩ 8 (by kernel_rfl) (by kernel_rfl) (by kernel_rfl) (by kernel_rfl)) ?_
  intro W base args ds gs before hval0 hW _ _
  have hval : ∀ (j : Nat) t v, Try.f8.params[j]? = some t → args[j]? = some v → Value.okWide Try.prog W .any base t v := hval0
  have hW' := hW
  obtain ⟨p, q, hA0, _, _, _, _⟩ := hW
  have hA : DataW.TrodAll enc Try.prog W 0 (fun _ => true) true Try.f8.params.toList args.toList ds p := hA0
  rw [Try.params8] at hA hval
  obtain ⟨v0, v1, v2, d0, d1, d2, p0, p1, p2, rfl, rfl, rfl, h0, h1, h2⟩ := trodAll_three hA
  obtain ⟨s0, t0, D0, rfl, A0, it0⟩ := open_Sketch (hval 0 49 v0 rfl rfl) h0
  obtain ⟨a1, rfl, ha1, hb1⟩ := open_num (hval 1 3 v1 rfl rfl) h1
  obtain ⟨a2, rfl, ha2, hb2⟩ := open_num (hval 2 3 v2 rfl rfl) h2
  refine (lawAddKey s0 t0 D0 a1 a2 W A0 it0 ⟨ha1, hb1⟩ ⟨ha2, hb2⟩).mono fun e W' ⟨he, hw⟩ => ⟨_, he, law_post Try.laidOut (fun u hu => ?_) rfl rfl Try.underlying4 hW' rfl hw⟩
  rw [Try.params8] at hu
  simp at hu
  rcases hu with rfl | rfl
  · exact Try.read49
  · exact Try.read3

theorem ExactAddKey_holds : Rows.FnExactAddKeySaid :=
  OpenClaim.holds_of_wide 8 Try.f8 rfl rfl rfl rfl rfl rfl rfl ⟨rfl, rfl, rfl, rfl, rfl⟩ rfl rfl rfl rfl rfl (by kernel_rfl) Try.func8 (by kernel_rfl)
    (of_decide_eq_true (by kernel_rfl)) (by unfold Func.isWrapper; first | (rw [if_pos (by decide +kernel)]; kernel_rfl) | (rw [if_neg (by decide +kernel)]; exact ⟨rfl, rfl⟩))
    (fun os started H enc _ => ExactAddKey_lifted os started H enc)

end Go.Proofs.Ytophppnllkadoaa
