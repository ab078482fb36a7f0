/- 'laws.FnExactCover' answers true for any two numbers: the program's cover is the model's, is the call's own, and is unmoved by another call. No condition. -/
import Derived.Test.YtegffibamkaeiabSf
import Derived.Test.YtegffibamkaeiabOpen
namespace Go.Proofs.Ytegffibamkaeiab
open Go.ChangeShapes Go.WideShapes Go.ChangeAt Go.RowKit Go.Joins

/-- A slice that holds L, and a bool, in new memory. -/
def RowBool (w : World) (b : Bool) (L : List (Int × Int)) (e : Ending) (w' : World) : Prop := ∃ v, e = .returned (.tuple #[v, .bool b]) ∧ Row w' w.heap.size w'.heap.size v L ∧ Below w.heap.size w w'
theorem RowBool.no {w w' : World} {e : Ending} (h : e = .returned (.tuple #[.slice none 0 0, .bool false]) ∧ Below w.heap.size w w') : RowBool w false [] e w' := ⟨_, h.1, .inl ⟨rfl, none, 0, rfl⟩, h.2⟩

set_option maxHeartbeats 4000000 in
theorem lawCover_of (fr to : Int) (b : Bool) (L : List (Int × Int)) (hL : L.length ≤ 65536) (w : World)
    (hs : ∀ w, Calls Try.prog 7 #[.int .i64 fr, .int .i64 to] w (RowBool w b L)) (hi : ∀ w, Calls Try.prog 8 #[.int .i64 fr, .int .i64 to] w (RowBool w b L)) :
    Calls Try.prog 3 #[.int .i64 fr, .int .i64 to] w fun e w' => e = .returned (.bool true) ∧ Below w.heap.size w w' := by
  have Hs := Lib.hid hs
  have Hi := Lib.hid hi
  clear hs hi
  have hn : (0 : Int) ≤ (L.length : Int) := by omega
  have hn2 : (L.length : Int) ≤ 65536 := by omega
  go_enter Try.func3, Try.ntmps3
  go_wp2_with fail
  go_at_call 7
  refine (Hs.out w).mono ?_
  rintro e w1 ⟨v0, rfl, r0, b0⟩
  have H0 := Lib.hid (And.intro r0 b0)
  clear r0 b0
  go_wp2_with fail
  go_at_call 8
  refine (Hi.out w1).mono ?_
  rintro e w2 ⟨v1, rfl, r1, b1⟩
  have H1 := Lib.hid (And.intro r1 b1)
  clear r1 b1
  go_wp2_with fail
  go_at_call 9
  refine (eqS_same L w1.heap.size w2.heap.size w.heap.size w1.heap.size v1 v0 w2 H1.out.1 (H0.out.1.below H1.out.2 (Nat.le_refl _)) (Nat.le_refl _) H1.out.2.size).mono ?_
  rintro e w3 ⟨rfl, b2⟩
  have H2 := Lib.hid b2
  clear b2
  go_wp2_with fail
  go_at_call 10
  refine (markS L w1.heap.size w2.heap.size v1 1 w3 (H1.out.1.below H2.out (Nat.le_refl _)) (by omega) (by omega) (by omega)).mono ?_
  rintro e w4 ⟨rfl, rm, hO⟩
  have r04 : Row w4 w.heap.size w1.heap.size v0 L ∧ Below w.heap.size w w4 := by
    have r03 := (H0.out.1.below H1.out.2 (Nat.le_refl _)).below H2.out H1.out.2.size
    have b03 : Below w.heap.size w w3 := (H0.out.2.trans (H1.out.2.mono H0.out.2.size)).trans (H2.out.mono (Nat.le_trans H0.out.2.size H1.out.2.size))
    obtain ⟨g, ho, ⟨h1, h2⟩ | h1⟩ := hO
    · exact ⟨r03.only ho (.inl h1), b03.trans (ho.below (Nat.le_trans H0.out.2.size h1))⟩
    · subst h1; exact ⟨r03, b03⟩
  have hsz : w2.heap.size ≤ w4.heap.size := by
    obtain ⟨g, ho, _⟩ := hO
    have := ho.2.2.2.1
    have := H2.out.size
    omega
  have H4 := Lib.hid (And.intro rm (And.intro r04 hsz))
  clear rm r04 hO hsz
  go_wp2_with fail
  go_at_call 11
  refine (heldS L.length w1.heap.size w2.heap.size v1 1 w4 H4.out.1 (by omega) (by omega) (by omega)).mono ?_
  rintro e w5 ⟨rfl, rfl⟩
  have hneg : decide (1 + 2 * (L.length : Int) < 0) = false := decide_eq_false (by omega)
  go_wp2_with fail
  go_at_call 8
  refine (Hi.out w4).mono ?_
  rintro e w5 ⟨v2, rfl, r2, b4⟩
  have H5 := Lib.hid (And.intro r2 b4)
  clear r2 b4
  go_wp2_with fail
  go_at_call 9
  refine (eqS_same L w4.heap.size w5.heap.size w.heap.size w1.heap.size v2 v0 w5 H5.out.1 (H4.out.2.1.1.below H5.out.2 (Nat.le_trans H1.out.2.size H4.out.2.2)) (Nat.le_refl _) (Nat.le_trans (Nat.le_trans H1.out.2.size H4.out.2.2) H5.out.2.size)).mono ?_
  rintro e w6 ⟨rfl, b6⟩
  have H6 := Lib.hid b6
  clear b6
  go_wp2_with fail
  go_at_call 11
  refine (heldS L.length w1.heap.size w2.heap.size v1 1 w6 ((H4.out.1.below H5.out.2 H4.out.2.2).below H6.out (Nat.le_trans H4.out.2.2 H5.out.2.size)) (by omega) (by omega) (by omega)).mono ?_
  rintro e w7 ⟨rfl, rfl⟩
  go_wp2_with fail
  go_ret
  have hw4 := H4.out.2.1.2
  exact ⟨rfl, (hw4.trans (H5.out.2.mono hw4.size)).trans (H6.out.mono (Nat.le_trans hw4.size H5.out.2.size))⟩

theorem lawCover (fr to : Int) (w : World) :
    Calls Try.prog 3 #[.int .i64 fr, .int .i64 to] w fun e w' => e = .returned (.bool true) ∧ Below w.heap.size w w' := by
  by_cases hb : badB fr to = true
  · exact lawCover_of fr to false [] (by simp) w (fun w => (spcover_no fr to w hb).mono fun _ _ h => RowBool.no h) (fun w => (cover_no fr to w hb).mono fun _ _ h => RowBool.no h)
  · obtain ⟨h0, h1, h2⟩ := badB_true (by simpa using hb)
    refine lawCover_of fr to true (tree fr to 17 0 0) ?_ w (fun w => spcover_yes fr to w h0 h1 h2) (fun w => cover_yes fr to w h0 h1 h2)
    have h3 := tree_len fr to 17 0 0 (by omega) (by omega) (by omega)
    have : psz 0 = 65536 := by decide
    omega

set_option maxRecDepth 100000 in
theorem Cover_lifted (os : Os) (started : os.Started) (H : Type) (enc : TypeId × Value → H) :
    ReturnsInHanded {} Try.checked os 3 .any (Rows.fnExactCoverSpec.pre6 enc Try.prog Try.f3 Rows.fnExactCoverRow.domain false) (Rows.fnExactCoverSpec.post enc Try.prog Try.f3 false true false false) := by
  refine returnsInHanded_of_change (C := Try.checked) Try.own started (by kernel_rfl) Try.func3
    (ChangeSpec.witness6 (enc := enc) (C := Try.checked) false ⟨#[], #[.int .i64 0, .int .i64 0], []⟩ 8 (by kernel_rfl) (by kernel_rfl) (by kernel_rfl) (by kernel_rfl)) ?_
  intro W base args ds gs before hval0 hW _ _
  have hval : ∀ (j : Nat) t v, Try.f3.params[j]? = some t → args[j]? = some v → Value.okWide Try.prog W .any base t v := hval0
  have hW' := hW
  obtain ⟨p, q, hA0, _, _, _, _⟩ := hW
  have hA : DataW.TrodAll enc Try.prog W 0 (fun _ => true) true Try.f3.params.toList args.toList ds p := hA0
  rw [Try.params3] at hA hval
  obtain ⟨v0, v1, d0, d1, p0, p1, rfl, rfl, rfl, h0, h1⟩ := trodAll_two hA
  obtain ⟨a0, rfl, ha0, hb0⟩ := open_num (hval 0 3 v0 rfl rfl) h0
  obtain ⟨a1, rfl, ha1, hb1⟩ := open_num (hval 1 3 v1 rfl rfl) h1
  refine (lawCover a0 a1 W).mono fun e W' ⟨he, hw⟩ => ⟨_, he, law_post Try.laidOut (fun u hu => ?_) rfl rfl Try.underlying4 hW' rfl hw⟩
  rw [Try.params3] at hu
  simp at hu
  subst hu
  exact Try.read3

theorem cover_holds : Rows.FnExactCoverSaid :=
  OpenClaim.holds_of_wide 3 Try.f3 rfl rfl rfl rfl rfl rfl rfl ⟨rfl, rfl, rfl, rfl, rfl⟩ rfl rfl rfl rfl rfl (by kernel_rfl) Try.func3 (by kernel_rfl)
    (of_decide_eq_true (by kernel_rfl)) (by unfold Func.isWrapper; first | (rw [if_pos (by decide +kernel)]; kernel_rfl) | (rw [if_neg (by decide +kernel)]; exact ⟨rfl, rfl⟩))
    (fun os started H enc _ => Cover_lifted os started H enc)

end Go.Proofs.Ytegffibamkaeiab
