/- 'laws.FnExactCheapestWay' answers true for every graph and all two numbers, and leaves its argument as it was; what the program returns is memory of its own. No condition. -/
import Derived.Test.YtkkfgnnhdcmmjaaLCheapestWay
import Derived.Test.YtkkfgnnhdcmmjaaIc
import Derived.Test.YtkkfgnnhdcmmjaaMp
import Derived.Test.YtkkfgnnhdcmmjaaOpen
namespace Go.Proofs.Ytkkfgnnhdcmmjaa
open Go.ChangeShapes Go.WideShapes Go.ChangeAt Go.RowKit Go.Joins


theorem lawCheapestWay (x : Int) (v : Value) (n : Nat) (Z : Nat → Int) (a b : Int) (w : World) (_hx : I64 x) (hA : Arg 3 w v n Z) (_ha : I64 a) (_hb : I64 b) :
    Calls Try.prog 5 #[.agg #[.int .i64 x, v], .int .i64 a, .int .i64 b] w fun e w' => e = .returned (.bool true) ∧ Below w.heap.size w w' := by
  by_cases hn : n ≤ 1048576
  · have e : zs Z n 3 = flat (eds Z n) := (flat_eds Z n).symm
    have hln := eds_len Z n
    by_cases hG : gok x (eds Z n) = true
    · obtain ⟨M, rfl⟩ : ∃ M : Nat, x = (M : Int) := ⟨x.toNat, by have := (gok_parts hG).1; omega⟩
      have hM := (gok_parts hG).2.1
      by_cases hs : ndB (M : Int) a = true
      · have hs' := hs
        unfold ndB at hs'
        rw [inB_iff] at hs'
        obtain ⟨s, rfl⟩ : ∃ s : Nat, a = (s : Int) := ⟨a.toNat, by omega⟩
        have hsM : s < M := by omega
        by_cases ho : ndB (M : Int) b = true
        · have ho' := ho
          unfold ndB at ho'
          rw [inB_iff] at ho'
          obtain ⟨o, rfl⟩ : ∃ o : Nat, b = (o : Int) := ⟨b.toNat, by omega⟩
          have hoM : o < M := by omega
          have hs2 : 0 ≤ (s : Int) ∧ (s : Int) < (M : Int) := ⟨by omega, by omega⟩
          have ho2 : 0 ≤ (o : Int) ∧ (o : Int) < (M : Int) := ⟨by omega, by omega⟩
          by_cases hd : dsT (M : Int) (eds Z n) (s : Int) (o : Int) = Far
          · refine lawExactCheapestWay_fit (M : Int) v n Z (s : Int) (o : Int) w hA hn 0 [] false (by omega) (fun lo hi v w hr hh => scw_far M lo hi n v (eds Z n) s o w hln (e ▸ hr) hh hG hsM hoM hd) (fun lo hi v w hr hh => icw_yes M lo hi n v (eds Z n) s (o : Int) w hln (e ▸ hr) hh hG hsM 0 [] false (fun P hP t ht hl => ?_) (fun _ _ _ => ⟨rfl, rfl, rfl⟩))
            have h1 := hP.dis hG hs2 ht
            have h2 := hP.cost hG hs2 ht
            rw [hl, hd] at h1
            unfold Far at h1
            omega
          · obtain ⟨l, hl⟩ := WayP.ex hG hs2 ho2 hd
            have hlen := hl.len hG ho2
            refine lawExactCheapestWay_fit (M : Int) v n Z (s : Int) (o : Int) w hA hn (l.length + 1) ((s : Int) :: l) true (by omega) (fun lo hi v w hr hh => scw_yes M lo hi n v (eds Z n) s o w hln (e ▸ hr) hh hG hsM hoM l hl) (fun lo hi v w hr hh => icw_yes M lo hi n v (eds Z n) s (o : Int) w hln (e ▸ hr) hh hG hsM (l.length + 1) ((s : Int) :: l) true (fun P hP t ht h => ⟨hl.found hG hs2 ho2 hP ht h, rfl, rfl⟩) (fun P hP h => ?_))
            obtain ⟨t, ht, h2⟩ := hP.all_dis hG hd
            exact absurd h2 (h t ht)
        · rw [Bool.not_eq_true] at ho
          have hs2 : 0 ≤ (s : Int) ∧ (s : Int) < (M : Int) := ⟨by omega, by omega⟩
          refine lawExactCheapestWay_fit (M : Int) v n Z (s : Int) b w hA hn 0 [] false (by omega) (fun lo hi v w hr hh => scw_no2 (M : Int) lo hi n v (eds Z n) (s : Int) b w hln (e ▸ hr) hh ⟨hG, hs, ho⟩) (fun lo hi v w hr hh => icw_yes M lo hi n v (eds Z n) s b w hln (e ▸ hr) hh hG hsM 0 [] false (fun P hP t ht hl => ?_) (fun _ _ _ => ⟨rfl, rfl, rfl⟩))
          have h1 := ((hP.best t ht).1.bounds hG hs2).2.2.2.1
          rw [hl] at h1
          have h2 : ndB (M : Int) b = true := by unfold ndB; rw [inB_iff]; omega
          rw [ho] at h2
          cases h2
      · rw [Bool.not_eq_true] at hs
        exact lawExactCheapestWay_fit (M : Int) v n Z a b w hA hn 0 [] false (by omega) (fun lo hi v w hr hh => scw_no1 (M : Int) lo hi n v (eds Z n) a b w hln (e ▸ hr) hh ⟨hG, hs⟩) (fun lo hi v w hr hh => icw_no1 (M : Int) lo hi n v (eds Z n) a b w hln (e ▸ hr) hh ⟨hG, hs⟩)
    · rw [Bool.not_eq_true] at hG
      exact lawExactCheapestWay_fit x v n Z a b w hA hn 0 [] false (by omega) (fun lo hi v w hr hh => scw_no0 x lo hi n v (eds Z n) a b w hln (e ▸ hr) hh hG) (fun lo hi v w hr hh => icw_no0 x lo hi n v (eds Z n) a b w hln (e ▸ hr) hh hG)
  · exact lawExactCheapestWay_big0 x v n Z a b w hA (by omega)

set_option maxRecDepth 100000 in
theorem ExactCheapestWay_lifted (os : Os) (started : os.Started) (H : Type) (enc : TypeId × Value → H) :
    ReturnsInHanded {} Try.checked os 5 .any (Rows.fnExactCheapestWaySpec.pre6 enc Try.prog Try.f5 Rows.fnExactCheapestWayRow.domain false) (Rows.fnExactCheapestWaySpec.post enc Try.prog Try.f5 false true false false) := by
  refine returnsInHanded_of_change (C := Try.checked) Try.own started (by kernel_rfl) Try.func5
    (ChangeSpec.witness6 (enc := enc) (C := Try.checked) false ⟨#[], #[.agg #[.int .i64 0, .slice none 0 0], .int .i64 0, .int .i64 0], []⟩ 8 (by kernel_rfl) (by kernel_rfl) (by kernel_rfl) (by kernel_rfl)) ?_
  intro W base args ds gs before hval0 hW _ _
  have hval : ∀ (j : Nat) t v, Try.f5.params[j]? = some t → args[j]? = some v → Value.okWide Try.prog W .any base t v := hval0
  have hW' := hW
  obtain ⟨p, q, hA0, _, _, _, _⟩ := hW
  have hA : DataW.TrodAll enc Try.prog W 0 (fun _ => true) true Try.f5.params.toList args.toList ds p := hA0
  rw [Try.params5] at hA hval
  obtain ⟨v0, v1, v2, d0, d1, d2, p0, p1, p2, rfl, rfl, rfl, h0, h1, h2⟩ := trodAll_three hA
  obtain ⟨x0, s0, n0, Z0, rfl, hx0, A0⟩ := open_Graph (hval 0 24 v0 rfl rfl) h0
  obtain ⟨a1, rfl, ha1, hb1⟩ := open_num (hval 1 3 v1 rfl rfl) h1
  obtain ⟨a2, rfl, ha2, hb2⟩ := open_num (hval 2 3 v2 rfl rfl) h2
  refine (lawCheapestWay x0 s0 n0 Z0 a1 a2 W hx0 A0 ⟨ha1, hb1⟩ ⟨ha2, hb2⟩).mono fun e W' ⟨he, hw⟩ => ⟨_, he, law_post Try.laidOut (fun u hu => ?_) rfl rfl Try.underlying4 hW' rfl hw⟩
  rw [Try.params5] at hu
  simp at hu
  rcases hu with rfl | rfl
  · exact Try.read24
  · exact Try.read3

theorem ExactCheapestWay_holds : Rows.FnExactCheapestWaySaid :=
  OpenClaim.holds_of_wide 5 Try.f5 rfl rfl rfl rfl rfl rfl rfl ⟨rfl, rfl, rfl, rfl, rfl⟩ rfl rfl rfl rfl rfl (by kernel_rfl) Try.func5 (by kernel_rfl)
    (of_decide_eq_true (by kernel_rfl)) (by unfold Func.isWrapper; first | (rw [if_pos (by decide +kernel)]; kernel_rfl) | (rw [if_neg (by decide +kernel)]; exact ⟨rfl, rfl⟩))
    (fun os started H enc _ => ExactCheapestWay_lifted os started H enc)

end Go.Proofs.Ytkkfgnnhdcmmjaa
