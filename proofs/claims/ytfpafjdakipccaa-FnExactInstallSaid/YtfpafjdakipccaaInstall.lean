/- 'laws.FnExactInstall' answers true for every database and every advertisement, and leaves its arguments as they were. No condition. -/
import Derived.Test.YtfpafjdakipccaaLInstall
import Derived.Test.YtfpafjdakipccaaIn
import Derived.Test.YtfpafjdakipccaaLl
import Derived.Test.YtfpafjdakipccaaOpen
namespace Go.Proofs.Ytfpafjdakipccaa
open Go.ChangeShapes Go.WideShapes Go.ChangeAt Go.RowKit Go.Joins
theorem mtot_fit {D : List Ls} (h : dtot D <= 1048576) : mtot D <= 5000000 := by have := mtot_le D; omega
theorem dtot_ok {D : List Ls} (h : dokB D = true) : mtot D <= 5000000 := by
  have h1 := dokB_len h
  have h2 : ltot D <= 16 * D.length := by
    have hm : ∀ l ∈ D, l.tot <= 16 := fun l hl => by
      obtain ⟨_, _, _, _, _, _, h3, h4⟩ := Ls.ok_bd (dokB_mem h hl)
      unfold Ls.tot
      omega
    clear h h1
    induction D with
    | nil => exact Nat.le_refl _
    | cons a r ih =>
      have i1 := ih fun l hl => hm l (by simp [hl])
      have i2 := hm a (by simp)
      simp only [ltot, List.length_cons]
      omega
  exact mtot_fit (by rw [dtot_eq]; omega)
theorem inst_fit {D : List Ls} (l : Ls) (h : dtot D <= 1048576) : mtot (inst D l) <= 5000000 := by
  cases hv : dokB D
  · rw [inst_no (by rw [icode_bad (.inl hv)]; decide)]; exact mtot_fit h
  · exact dtot_ok (inst_ok hv l)
theorem lawInstall (v0 : Value) (D0 : List Ls) (o1 s1 g1 : Int) (u1 v1 : Value) (n1 m1 : Nat) (Y1 Z1 : Nat -> Int) (w : World) (hA0 : DArg w v0 D0) (hA1 : LArg w u1 v1 n1 m1 Y1 Z1) :
    Calls Try.prog 6 #[.agg #[v0], .agg #[.int .i64 o1, .int .i64 s1, .int .i64 g1, u1, v1]] w fun e w' => e = .returned (.bool true) /\ Below w.heap.size w w' := by
  by_cases h0 : dtot D0 <= 1048576
  rotate_left
  · exact lawExactInstall_big0 v0 D0 o1 s1 g1 u1 v1 n1 m1 Y1 Z1 w hA0 hA1 (by omega)
  by_cases hn : dtot D0 + (n1 + m1) <= 1048576
  rotate_left
  · exact lawExactInstall_big1 v0 D0 o1 s1 g1 u1 v1 n1 m1 Y1 Z1 w hA0 hA1 h0 (by omega)
  have eY : zs Y1 n1 2 = flat2 (lks Y1 n1) := (flat2_lks Y1 n1).symm
  have eZ : zs Z1 m1 3 = flat (eds Z1 m1) := (flat_eds Z1 m1).symm
  obtain ⟨l, hl⟩ : ∃ l : Ls, l = ⟨o1, s1, g1, lks Y1 n1, eds Z1 m1⟩ := ⟨_, rfl⟩
  have e1 : l.K.length = n1 := by rw [hl]; exact lks_len _ _
  have e2 : l.T.length = m1 := by rw [hl]; exact eds_len _ _
  have e3 : flat2 l.K = zs Y1 n1 2 := by rw [hl]; exact eY.symm
  have e4 : flat l.T = zs Z1 m1 3 := by rw [hl]; exact eZ.symm
  have e5 : l.o = o1 := by rw [hl]
  have e6 : l.s = s1 := by rw [hl]
  have e7 : l.g = g1 := by rw [hl]
  refine lawExactInstall_fit v0 D0 o1 s1 g1 u1 v1 n1 m1 Y1 Z1 w hA0 hA1 (by omega) (inst D0 l) (icode D0 l) (inst_fit l h0) ?_ ?_
  · intro lo hi v lo2 hi2 u x w hr hh hr2 hh2
    have h := sinst_any D0 l lo hi lo2 hi2 v u x w hr (by rw [e1, e2, e3, e4]; exact hr2) hh hh2 h0
    rw [e5, e6, e7] at h
    exact h
  · intro lo hi v lo2 hi2 u x w hr hh hr2 hh2
    have h := iinst_any D0 l lo hi lo2 hi2 v u x w hr (by rw [e1, e2, e3, e4]; exact hr2) hh hh2 h0
    rw [e5, e6, e7] at h
    exact h
set_option maxRecDepth 100000 in
theorem ExactInstall_lifted (os : Os) (started : os.Started) (H : Type) (enc : TypeId × Value -> H) :
    ReturnsInHanded {} Try.checked os 6 .any (Rows.fnExactInstallSpec.pre6 enc Try.prog Try.f6 Rows.fnExactInstallRow.domain false) (Rows.fnExactInstallSpec.post enc Try.prog Try.f6 false true false false) := by
  refine returnsInHanded_of_change (C := Try.checked) Try.own started (by kernel_rfl) Try.func6
    (ChangeSpec.witness6 (enc := enc) (C := Try.checked) false ⟨#[], #[.agg #[.slice none 0 0], .agg #[.int .i64 0, .int .i64 0, .int .i64 0, .slice none 0 0, .slice none 0 0]], []⟩ 8 (by kernel_rfl) (by kernel_rfl) (by kernel_rfl) (by kernel_rfl)) ?_
  intro W base args ds gs before hval0 hW _ _
  have hval : ∀ (j : Nat) t v, Try.f6.params[j]? = some t -> args[j]? = some v -> Value.okWide Try.prog W .any base t v := hval0
  have hW' := hW
  obtain ⟨p, q, hA0, _, _, _, _⟩ := hW
  have hA : DataW.TrodAll enc Try.prog W 0 (fun _ => true) true Try.f6.params.toList args.toList ds p := hA0
  rw [Try.params6] at hA hval
  obtain ⟨v0, v1, d0, d1, p0, p1, rfl, rfl, rfl, h0, h1⟩ := trodAll_two hA
  obtain ⟨u0, D0, rfl, A0⟩ := open_Db (hval 0 40 v0 rfl rfl) h0
  obtain ⟨o1, s1, g1, u1, x1, n1, m1, Y1, Z1, rfl, _, _, _, A1⟩ := open_Lsa (hval 1 53 v1 rfl rfl) h1
  refine (lawInstall u0 D0 o1 s1 g1 u1 x1 n1 m1 Y1 Z1 W A0 A1).mono fun e W' ⟨he, hw⟩ => ⟨_, he, law_post Try.laidOut (fun u hu => ?_) rfl rfl Try.underlying4 hW' rfl hw⟩
  rw [Try.params6] at hu
  simp at hu
  rcases hu with rfl | rfl
  · exact Try.read40
  · exact Try.read53
theorem ExactInstall_holds : Rows.FnExactInstallSaid :=
  OpenClaim.holds_of_wide 6 Try.f6 rfl rfl rfl rfl rfl rfl rfl ⟨rfl, rfl, rfl, rfl, rfl⟩ rfl rfl rfl rfl rfl (by kernel_rfl) Try.func6 (by kernel_rfl)
    (of_decide_eq_true (by kernel_rfl)) (by unfold Func.isWrapper; first | (rw [if_pos (by decide +kernel)]; kernel_rfl) | (rw [if_neg (by decide +kernel)]; exact ⟨rfl, rfl⟩))
    (fun os started H enc _ => ExactInstall_lifted os started H enc)
end Go.Proofs.Ytfpafjdakipccaa
