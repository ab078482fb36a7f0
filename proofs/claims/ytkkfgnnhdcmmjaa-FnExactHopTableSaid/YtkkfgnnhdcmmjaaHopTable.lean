/- 'laws.FnExactHopTable' answers true for every graph and every number, and leaves its argument as it was; what the program returns is memory of its own. No condition. -/
import Derived.Test.YtkkfgnnhdcmmjaaLHopTable
import Derived.Test.YtkkfgnnhdcmmjaaKt
import Derived.Test.YtkkfgnnhdcmmjaaOpen
namespace Go.Proofs.Ytkkfgnnhdcmmjaa
open Go.ChangeShapes Go.WideShapes Go.ChangeAt Go.RowKit Go.Joins


theorem offX_le {ZZ : Nat → List Int} (h : ∀ i, (ZZ i).length ≤ 10) : ∀ n, offX ZZ n ≤ n * 10
  | 0 => Nat.le_refl _
  | n + 1 => by have := offX_le h n; have := h n; show offX ZZ n + (ZZ n).length ≤ _; omega
theorem htZ_le (N : Int) (L : List Ed) (x : Int) (i : Nat) : (htZ N L x i).length ≤ 10 := by
  unfold htZ hopsL
  split
  · exact nodup_bound 10 _ ((setL_sorted _).imp (fun h e => by omega)) (fun z hz => (mem_setL.1 hz).1)
  · simp
theorem htN_le (N : Int) (L : List Ed) (x : Int) : htN N L x ≤ 10 := by
  unfold htN
  split
  · rename_i h
    have := (gok_parts h.1).2.1
    omega
  · omega
theorem lawHopTable (x : Int) (v : Value) (n : Nat) (Z : Nat → Int) (a : Int) (w : World) (_hx : I64 x) (hA : Arg 3 w v n Z) (_ha : I64 a) :
    Calls Try.prog 9 #[.agg #[.int .i64 x, v], .int .i64 a] w fun e w' => e = .returned (.bool true) ∧ Below w.heap.size w w' := by
  by_cases hn : n ≤ 1048576
  · have e : zs Z n 3 = flat (eds Z n) := (flat_eds Z n).symm
    have hl := htN_le x (eds Z n) a
    have ht : offX (htZ x (eds Z n) a) (htN x (eds Z n) a) ≤ 1000000 := by have := offX_le (htZ_le x (eds Z n) a) (htN x (eds Z n) a); omega
    refine lawExactHopTable_fit x v n Z a w hA hn (htN x (eds Z n) a) (htZ x (eds Z n) a) ht (fun lo hi v w hr hh => ?_) (fun lo hi v w hr hh => ?_)
    · refine (sht_any x lo hi n v (eds Z n) a w (eds_len Z n) (e ▸ hr) hh).mono ?_
      rintro e w' ⟨rv, h1, h2⟩
      refine ⟨rv, h1, h2.rowX (by omega), ?_⟩
      obtain ⟨_, _, h⟩ := h2
      exact h.below
    · refine (iht_any x lo hi n v (eds Z n) a w (eds_len Z n) (e ▸ hr) hh).mono ?_
      rintro e w' ⟨rv, h1, h2⟩
      refine ⟨rv, h1, h2.rowX (by omega), ?_⟩
      obtain ⟨_, _, h⟩ := h2
      exact h.below
  · exact lawExactHopTable_big0 x v n Z a w hA (by omega)

set_option maxRecDepth 100000 in
theorem ExactHopTable_lifted (os : Os) (started : os.Started) (H : Type) (enc : TypeId × Value → H) :
    ReturnsInHanded {} Try.checked os 9 .any (Rows.fnExactHopTableSpec.pre6 enc Try.prog Try.f9 Rows.fnExactHopTableRow.domain false) (Rows.fnExactHopTableSpec.post enc Try.prog Try.f9 false true false false) := by
  refine returnsInHanded_of_change (C := Try.checked) Try.own started (by kernel_rfl) Try.func9
    (ChangeSpec.witness6 (enc := enc) (C := Try.checked) false ⟨#[], #[.agg #[.int .i64 0, .slice none 0 0], .int .i64 0], []⟩ 8 (by kernel_rfl) (by kernel_rfl) (by kernel_rfl) (by kernel_rfl)) ?_
  intro W base args ds gs before hval0 hW _ _
  have hval : ∀ (j : Nat) t v, Try.f9.params[j]? = some t → args[j]? = some v → Value.okWide Try.prog W .any base t v := hval0
  have hW' := hW
  obtain ⟨p, q, hA0, _, _, _, _⟩ := hW
  have hA : DataW.TrodAll enc Try.prog W 0 (fun _ => true) true Try.f9.params.toList args.toList ds p := hA0
  rw [Try.params9] at hA hval
  obtain ⟨v0, v1, d0, d1, p0, p1, rfl, rfl, rfl, h0, h1⟩ := trodAll_two hA
  obtain ⟨x0, s0, n0, Z0, rfl, hx0, A0⟩ := open_Graph (hval 0 24 v0 rfl rfl) h0
  obtain ⟨a1, rfl, ha1, hb1⟩ := open_num (hval 1 3 v1 rfl rfl) h1
  refine (lawHopTable x0 s0 n0 Z0 a1 W hx0 A0 ⟨ha1, hb1⟩).mono fun e W' ⟨he, hw⟩ => ⟨_, he, law_post Try.laidOut (fun u hu => ?_) rfl rfl Try.underlying4 hW' rfl hw⟩
  rw [Try.params9] at hu
  simp at hu
  rcases hu with rfl | rfl
  · exact Try.read24
  · exact Try.read3

theorem ExactHopTable_holds : Rows.FnExactHopTableSaid :=
  OpenClaim.holds_of_wide 9 Try.f9 rfl rfl rfl rfl rfl rfl rfl ⟨rfl, rfl, rfl, rfl, rfl⟩ rfl rfl rfl rfl rfl (by kernel_rfl) Try.func9 (by kernel_rfl)
    (of_decide_eq_true (by kernel_rfl)) (by unfold Func.isWrapper; first | (rw [if_pos (by decide +kernel)]; kernel_rfl) | (rw [if_neg (by decide +kernel)]; exact ⟨rfl, rfl⟩))
    (fun os started H enc _ => ExactHopTable_lifted os started H enc)

end Go.Proofs.Ytkkfgnnhdcmmjaa
