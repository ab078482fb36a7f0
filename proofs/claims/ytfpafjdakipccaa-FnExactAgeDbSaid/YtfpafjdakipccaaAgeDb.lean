/- 'laws.FnExactAgeDb' answers true for every database and every number, and leaves its arguments as they were. No condition. -/
import Derived.Test.YtfpafjdakipccaaLAgeDb
import Derived.Test.YtfpafjdakipccaaIa
import Derived.Test.YtfpafjdakipccaaIs
import Derived.Test.YtfpafjdakipccaaOpen
namespace Go.Proofs.Ytfpafjdakipccaa
open Go.ChangeShapes Go.WideShapes Go.ChangeAt Go.RowKit Go.Joins

theorem Try.read3 : Try.prog.readableRec 3 = true ∧ 3 < Try.prog.types.size := ⟨by kernel_rfl, of_decide_eq_true (by kernel_rfl)⟩
set_option maxRecDepth 100000 in
theorem open_num {H : Type} {enc : TypeId × Value → H} {W : World} {v : Value} {d : DataW H} {p : List MemPlace} {r : Reach} {b base : Nat}
    (hv : Value.okWide Try.prog W r base 3 v) (h : DataW.Trod enc Try.prog W b (fun _ => true) true 3 v d p) :
    ∃ a : Int, v = .int .i64 a ∧ -9223372036854775808 ≤ a ∧ a ≤ 9223372036854775807 := by
  obtain ⟨a, rfl, rfl, rfl, wa⟩ := open_int Try.underlying3 hv h
  simp [Lit.wf, show IntKind.i64.min = -9223372036854775808 from rfl] at wa
  exact ⟨a, rfl, by omega, by omega⟩


theorem iagd_any (D : List Ls) (by_ : Int) (lo hi : Nat) (v : Value) (w : World) (hr : DRow w lo hi v D) (hh : hi ≤ w.heap.size) (hd : dtot D ≤ 1048576) : Calls Try.prog 34 #[.agg #[v], .int .i64 by_] w fun e w' => AgePost D by_ w e w' := by
  cases hv : dokB D
  · exact iagd_1 D by_ lo hi v w hr hh hd hv
  · by_cases h1 : by_ < 0
    · exact iagd_2 D by_ lo hi v w hr hh hd hv h1
    · by_cases h2 : 60 < by_
      · exact iagd_3 D by_ lo hi v w hr hh hd hv h1 h2
      · exact iagd_4 D by_ lo hi v w hr hh hv h1 h2
theorem sagd_any (D : List Ls) (by_ : Int) (lo hi : Nat) (v : Value) (w : World) (hr : DRow w lo hi v D) (hh : hi ≤ w.heap.size) (hd : dtot D ≤ 1048576) : Calls Try.prog 33 #[.agg #[v], .int .i64 by_] w fun e w' => SAgePost D by_ w e w' := by
  cases hv : dokB D
  · exact sagd_1 D by_ lo hi v w hr hh hd hv
  · cases hin : inB by_ 0 60
    · exact sagd_2 D by_ lo hi v w hr hh hd hv hin
    · exact sagd_3 D by_ lo hi v w hr hh hv hin
theorem mtot_fit {D : List Ls} (h : dtot D ≤ 1048576) : mtot D ≤ 5000000 := by have := mtot_le D; omega
theorem mtot_ok {D : List Ls} (h : dokB D = true) : mtot D ≤ 5000000 := by
  have h1 := dokB_len h
  have h2 : ltot D ≤ 16 * D.length := by
    have hm : ∀ l ∈ D, l.tot ≤ 16 := fun l hl => by
      obtain ⟨_, _, _, _, _, _, h3, h4⟩ := Ls.ok_bd (dokB_mem h hl)
      unfold Ls.tot
      omega
    clear h h1
    induction D with
    | nil => exact Nat.le_refl _
    | cons a r ih =>
      have i1 := ih fun l hl => hm l (by simp [hl])
      have i2 := hm a (by simp)
      simp only [ltot, List.length_cons]
      omega
  exact mtot_fit (by rw [dtot_eq]; omega)
theorem agD_fit (D : List Ls) (by_ : Int) (h : dtot D ≤ 1048576) : mtot (agD D by_) ≤ 5000000 := by
  unfold agD
  split
  · rename_i q
    unfold agok at q
    rw [Bool.and_eq_true] at q
    have h0 : 0 ≤ by_ := (of_decide_eq_true (show decide (0 ≤ by_ ∧ by_ ≤ 60) = true from by have := q.2; simpa [inB] using this)).1
    have h2 := midD_ok q.1 h0 D.length
    rw [midD_end (Nat.le_refl _)] at h2
    exact mtot_ok h2
  · exact mtot_fit h
theorem agG_fit (D : List Ls) (by_ : Int) (h : dtot D ≤ 1048576) : (agG D by_).length ≤ 1100000 := by
  unfold agG
  have h1 := gon_len by_ D
  have h2 := dtot_eq D
  split
  · omega
  · exact Nat.zero_le _
theorem lawAgeDb (v0 : Value) (D0 : List Ls) (a1 : Int) (w : World) (hA0 : DArg w v0 D0) (_h1 : -9223372036854775808 ≤ a1 ∧ a1 ≤ 9223372036854775807) :
    Calls Try.prog 7 #[.agg #[v0], .int .i64 a1] w fun e w' => e = .returned (.bool true) ∧ Below w.heap.size w w' := by
  by_cases hn : dtot D0 ≤ 1048576
  · exact lawExactAgeDb_fit v0 D0 a1 w hA0 hn (agD D0 a1) (agG D0 a1).length (agG D0 a1) (agD_fit D0 a1 hn) (agG_fit D0 a1 hn) (fun lo hi v w hr hh => sagd_any D0 a1 lo hi v w hr hh hn) (fun lo hi v w hr hh => iagd_any D0 a1 lo hi v w hr hh hn)
  · exact lawExactAgeDb_big v0 D0 a1 w hA0 (by omega)

set_option maxRecDepth 100000 in
theorem ExactAgeDb_lifted (os : Os) (started : os.Started) (H : Type) (enc : TypeId × Value → H) :
    ReturnsInHanded {} Try.checked os 7 .any (Rows.fnExactAgeDbSpec.pre6 enc Try.prog Try.f7 Rows.fnExactAgeDbRow.domain false) (Rows.fnExactAgeDbSpec.post enc Try.prog Try.f7 false true false false) := by
  refine returnsInHanded_of_change (C := Try.checked) Try.own started (by kernel_rfl) Try.func7
    (ChangeSpec.witness6 (enc := enc) (C := Try.checked) false ⟨#[], #[.agg #[.slice none 0 0], .int .i64 0], []⟩ 8 (by kernel_rfl) (by kernel_rfl) (by kernel_rfl) (by kernel_rfl)) ?_
  intro W base args ds gs before hval0 hW _ _
  have hval : ∀ (j : Nat) t v, Try.f7.params[j]? = some t → args[j]? = some v → Value.okWide Try.prog W .any base t v := hval0
  have hW' := hW
  obtain ⟨p, q, hA0, _, _, _, _⟩ := hW
  have hA : DataW.TrodAll enc Try.prog W 0 (fun _ => true) true Try.f7.params.toList args.toList ds p := hA0
  rw [Try.params7] at hA hval
  obtain ⟨v0, v1, d0, d1, p0, p1, rfl, rfl, rfl, h0, h1⟩ := trodAll_two hA
  obtain ⟨u0, D0, rfl, A0⟩ := open_Db (hval 0 40 v0 rfl rfl) h0
  obtain ⟨a1, rfl, ha1, hb1⟩ := open_num (hval 1 3 v1 rfl rfl) h1
  refine (lawAgeDb u0 D0 a1 W A0 ⟨ha1, hb1⟩).mono fun e W' ⟨he, hw⟩ => ⟨_, he, law_post Try.laidOut (fun u hu => ?_) rfl rfl Try.underlying4 hW' rfl hw⟩
  rw [Try.params7] at hu
  simp at hu
  rcases hu with rfl | rfl
  · exact Try.read40
  · exact Try.read3

theorem ExactAgeDb_holds : Rows.FnExactAgeDbSaid :=
  OpenClaim.holds_of_wide 7 Try.f7 rfl rfl rfl rfl rfl rfl rfl ⟨rfl, rfl, rfl, rfl, rfl⟩ rfl rfl rfl rfl rfl (by kernel_rfl) Try.func7 (by kernel_rfl)
    (of_decide_eq_true (by kernel_rfl)) (by unfold Func.isWrapper; first | (rw [if_pos (by decide +kernel)]; kernel_rfl) | (rw [if_neg (by decide +kernel)]; exact ⟨rfl, rfl⟩))
    (fun os started H enc _ => ExactAgeDb_lifted os started H enc)

end Go.Proofs.Ytfpafjdakipccaa
