/- 'laws.FnExactCoversPrefix' answers true for any two prefixes, and leaves its arguments as they were. No condition. -/
import Derived.Test.YtegffibamkaeiaaWc
import Derived.Test.YtegffibamkaeiaaOpen
namespace Go.Proofs.Ytegffibamkaeiaa
open Go.ChangeShapes Go.WideShapes Go.ChangeAt Go.RowKit Go.Joins

theorem box2_keep0 (w : World) (c0 c1 d0 d1 : Value) (T T' : TypeId) :
    ((w.alloc (.cells #[c0, c1] T)).alloc (.cells #[d0, d1] T')).drew.cell? ⟨w.heap.size, 0, none⟩ = some c0 ∧ ((w.alloc (.cells #[c0, c1] T)).alloc (.cells #[d0, d1] T')).drew.cell? ⟨w.heap.size, 1, none⟩ = some c1 ∧
    ((w.alloc (.cells #[c0, c1] T)).alloc (.cells #[d0, d1] T')).drew.cell? ⟨w.heap.size + 1, 0, none⟩ = some d0 ∧ ((w.alloc (.cells #[c0, c1] T)).alloc (.cells #[d0, d1] T')).drew.cell? ⟨w.heap.size + 1, 1, none⟩ = some d1 ∧
    w.heap.size + 1 < ((w.alloc (.cells #[c0, c1] T)).alloc (.cells #[d0, d1] T')).drew.heap.size ∧ Below w.heap.size w ((w.alloc (.cells #[c0, c1] T)).alloc (.cells #[d0, d1] T')).drew :=
  ⟨by simp [go_sem], by simp [go_sem], by simp [go_sem], by simp [go_sem], by simp [go_sem], (((Below.refl _ _).alloc (Nat.le_refl _) _).alloc (by simp) _).drew⟩
theorem box2_drew {w w1 : World} {c0 c1 d0 d1 : Value}
    (h : w1.cell? ⟨w.heap.size, 0, none⟩ = some c0 ∧ w1.cell? ⟨w.heap.size, 1, none⟩ = some c1 ∧ w1.cell? ⟨w.heap.size + 1, 0, none⟩ = some d0 ∧ w1.cell? ⟨w.heap.size + 1, 1, none⟩ = some d1 ∧ w.heap.size + 1 < w1.heap.size ∧ Below w.heap.size w w1) :
    w1.drew.cell? ⟨w.heap.size, 0, none⟩ = some c0 ∧ w1.drew.cell? ⟨w.heap.size, 1, none⟩ = some c1 ∧ w1.drew.cell? ⟨w.heap.size + 1, 0, none⟩ = some d0 ∧ w1.drew.cell? ⟨w.heap.size + 1, 1, none⟩ = some d1 ∧ w.heap.size + 1 < w1.drew.heap.size ∧ Below w.heap.size w w1.drew :=
  ⟨h.1, h.2.1, h.2.2.1, h.2.2.2.1, h.2.2.2.2.1, h.2.2.2.2.2.drew⟩
theorem box2_keep {w w1 w2 : World} {c0 c1 d0 d1 : Value}
    (h : w1.cell? ⟨w.heap.size, 0, none⟩ = some c0 ∧ w1.cell? ⟨w.heap.size, 1, none⟩ = some c1 ∧ w1.cell? ⟨w.heap.size + 1, 0, none⟩ = some d0 ∧ w1.cell? ⟨w.heap.size + 1, 1, none⟩ = some d1 ∧ w.heap.size + 1 < w1.heap.size ∧ Below w.heap.size w w1)
    (hb : Below w1.heap.size w1 w2) :
    w2.cell? ⟨w.heap.size, 0, none⟩ = some c0 ∧ w2.cell? ⟨w.heap.size, 1, none⟩ = some c1 ∧ w2.cell? ⟨w.heap.size + 1, 0, none⟩ = some d0 ∧ w2.cell? ⟨w.heap.size + 1, 1, none⟩ = some d1 ∧ w.heap.size + 1 < w2.heap.size ∧ Below w.heap.size w w2 := by
  obtain ⟨h0, h1, h4, h5, h2, h3⟩ := h
  obtain ⟨hc, hf⟩ := bcell hb
  have := hb.size
  exact ⟨by rw [hc _ _ (by omega)]; exact h0, by rw [hc _ _ (by omega)]; exact h1, by rw [hc _ _ (by omega)]; exact h4, by rw [hc _ _ (by omega)]; exact h5, by omega, h3.trans (hb.mono (by omega))⟩
theorem box2_below {w w1 : World} {c0 c1 d0 d1 : Value}
    (h : w1.cell? ⟨w.heap.size, 0, none⟩ = some c0 ∧ w1.cell? ⟨w.heap.size, 1, none⟩ = some c1 ∧ w1.cell? ⟨w.heap.size + 1, 0, none⟩ = some d0 ∧ w1.cell? ⟨w.heap.size + 1, 1, none⟩ = some d1 ∧ w.heap.size + 1 < w1.heap.size ∧ Below w.heap.size w w1) : Below w.heap.size w w1 := h.2.2.2.2.2

set_option maxHeartbeats 1000000 in
theorem lawCoversPrefix (net n net' n' : Int) (w : World) :
    Calls Try.prog 5 #[.agg #[.int .i64 net, .int .i64 n], .agg #[.int .i64 net', .int .i64 n']] w fun e w' => e = .returned (.bool true) ∧ Below w.heap.size w w' := by
  go_enter Try.func5, Try.ntmps5
  go_wp2_with fail
  go_region_held3 (fun w' => w'.cell? ⟨w.heap.size, 0, none⟩ = some (.int .i64 net) ∧ w'.cell? ⟨w.heap.size, 1, none⟩ = some (.int .i64 n) ∧ w'.cell? ⟨w.heap.size + 1, 0, none⟩ = some (.int .i64 net') ∧ w'.cell? ⟨w.heap.size + 1, 1, none⟩ = some (.int .i64 n') ∧ w.heap.size + 1 < w'.heap.size ∧ Below w.heap.size w w') (first | assumption | exact box2_keep0 _ _ _ _ _ _ _ | exact box2_drew (by assumption) | exact box2_keep (by assumption) (by assumption)) (first | (go_at_call 10; refine (toP_any _ _ _).mono ?_; rintro e w2 ⟨rfl, hb⟩) | (go_at_call 14; refine (spcov_any _ _ _ _ _).mono ?_; rintro e w2 ⟨rfl, hb⟩))
  go_wp2_with fail
  go_region_held3 (fun w' => w'.cell? ⟨w.heap.size, 0, none⟩ = some (.int .i64 net) ∧ w'.cell? ⟨w.heap.size, 1, none⟩ = some (.int .i64 n) ∧ w'.cell? ⟨w.heap.size + 1, 0, none⟩ = some (.int .i64 net') ∧ w'.cell? ⟨w.heap.size + 1, 1, none⟩ = some (.int .i64 n') ∧ w.heap.size + 1 < w'.heap.size ∧ Below w.heap.size w w') (first | assumption | exact box2_keep0 _ _ _ _ _ _ _ | exact box2_drew (by assumption) | exact box2_keep (by assumption) (by assumption)) (first | (go_at_call 10; refine (toP_any _ _ _).mono ?_; rintro e w2 ⟨rfl, hb⟩) | (go_at_call 15; refine (cov_any _ _ _ _ _).mono ?_; rintro e w2 ⟨rfl, hb⟩))
  go_wp2_with fail
  go_ret
  exact ⟨rfl, box2_below (by assumption)⟩

set_option maxRecDepth 100000 in
theorem CoversPrefix_lifted (os : Os) (started : os.Started) (H : Type) (enc : TypeId × Value → H) :
    ReturnsInHanded {} Try.checked os 5 .any (Rows.fnExactCoversPrefixSpec.pre6 enc Try.prog Try.f5 Rows.fnExactCoversPrefixRow.domain false) (Rows.fnExactCoversPrefixSpec.post enc Try.prog Try.f5 false true false false) := by
  refine returnsInHanded_of_change (C := Try.checked) Try.own started (by kernel_rfl) Try.func5
    (ChangeSpec.witness6 (enc := enc) (C := Try.checked) false ⟨#[], #[.agg #[.int .i64 0, .int .i64 0], .agg #[.int .i64 0, .int .i64 0]], []⟩ 8 (by kernel_rfl) (by kernel_rfl) (by kernel_rfl) (by kernel_rfl)) ?_
  intro W base args ds gs before hval0 hW _ _
  have hval : ∀ (j : Nat) t v, Try.f5.params[j]? = some t → args[j]? = some v → Value.okWide Try.prog W .any base t v := hval0
  have hW' := hW
  obtain ⟨p, q, hA0, _, _, _, _⟩ := hW
  have hA : DataW.TrodAll enc Try.prog W 0 (fun _ => true) true Try.f5.params.toList args.toList ds p := hA0
  rw [Try.params5] at hA hval
  obtain ⟨v0, v1, d0, d1, p0, p1, rfl, rfl, rfl, h0, h1⟩ := trodAll_two hA
  obtain ⟨a0, b0, rfl, _, _, _, _⟩ := open_prefix (hval 0 23 v0 rfl rfl) h0
  obtain ⟨a1, b1, rfl, _, _, _, _⟩ := open_prefix (hval 1 23 v1 rfl rfl) h1
  refine (lawCoversPrefix a0 b0 a1 b1 W).mono fun e W' ⟨he, hw⟩ => ⟨_, he, law_post Try.laidOut (fun u hu => ?_) rfl rfl Try.underlying4 hW' rfl hw⟩
  rw [Try.params5] at hu
  simp at hu
  subst hu
  exact Try.read23

theorem coversPrefix_holds : Rows.FnExactCoversPrefixSaid :=
  OpenClaim.holds_of_wide 5 Try.f5 rfl rfl rfl rfl rfl rfl rfl ⟨rfl, rfl, rfl, rfl, rfl⟩ rfl rfl rfl rfl rfl (by kernel_rfl) Try.func5 (by kernel_rfl)
    (of_decide_eq_true (by kernel_rfl)) (by unfold Func.isWrapper; first | (rw [if_pos (by decide +kernel)]; kernel_rfl) | (rw [if_neg (by decide +kernel)]; exact ⟨rfl, rfl⟩))
    (fun os started H enc _ => CoversPrefix_lifted os started H enc)

end Go.Proofs.Ytegffibamkaeiaa
