/- The law of ParsePrefix as a contract. -/
import Derived.Test.YtegffibamkaeiaaDoorPq
namespace Go.Proofs.YtegffibamkaeiaaDoor
open Go.RowKit

set_option maxHeartbeats 1000000 in
theorem eqP_same (net n : Int) (w : World) :
    Calls Tryd.prog 10 #[.agg #[.int .i64 net, .int .i64 n], .agg #[.int .i64 net, .int .i64 n]] w fun e w' => e = .returned (.bool true) ∧ Below w.heap.size w w' := by
  go_enter Tryd.func10, Tryd.ntmps10
  go_wp2_with fail
  go_ret
  exact ⟨rfl, (((Below.refl _ _).alloc (Nat.le_refl _) _).alloc (by simp) _)⟩

/-- Two answers about one text are the same. -/
theorem same_answer {w1 w1' w2 w2' : World} {l : List UInt8} {e1 e2 : Ending} (h1 : ParsePost w1 l e1 w1') (h2 : ParsePost w2 l e2 w2') :
    ∃ (net n : Int) (b : Bool), e1 = .returned (.tuple #[.agg #[.int .i64 net, .int .i64 n], .bool b]) ∧ e2 = .returned (.tuple #[.agg #[.int .i64 net, .int .i64 n], .bool b]) := by
  obtain ⟨h1, _⟩ := h1
  obtain ⟨h2, _⟩ := h2
  rcases h1 with ⟨net, n, t, rfl⟩ | ⟨no, rfl⟩
  · rcases h2 with ⟨net', n', t', rfl⟩ | ⟨no', rfl⟩
    · obtain ⟨rfl, rfl⟩ := t.uniq t'
      exact ⟨_, _, _, rfl, rfl⟩
    · exact absurd t (no' _ _)
  · rcases h2 with ⟨net', n', t', rfl⟩ | ⟨no', rfl⟩
    · exact absurd t' (no _ _)
    · exact ⟨_, _, _, rfl, rfl⟩

set_option maxHeartbeats 1000000 in
theorem lawParse_long (l : List UInt8) (w : World) (h : 1048576 < l.length) :
    Calls Tryd.prog 4 #[.string ⟨l.toArray⟩] w fun e w' => e = .returned (.bool true) ∧ Below w.heap.size w w' := by
  have t0 : decide ((1048576 : Int) < (l.length : Int)) = true := decide_eq_true (by omega)
  go_enter Tryd.func4, Tryd.ntmps4
  go_wp2
  go_ret
  exact ⟨rfl, Below.refl _ _⟩

set_option maxHeartbeats 1000000 in
theorem lawParse_short (l : List UInt8) (w : World) (h : l.length ≤ 1048576) (hE : Env w) :
    Calls Tryd.prog 4 #[.string ⟨l.toArray⟩] w fun e w' => e = .returned (.bool true) ∧ Below w.heap.size w w' := by
  have t0 : decide ((1048576 : Int) < (l.length : Int)) = false := decide_eq_false (by omega)
  have HE := Lib.hid hE
  clear hE
  go_enter Tryd.func4, Tryd.ntmps4
  go_wp2_with fail
  go_at_call 8
  refine (sparse_any l _ h).mono ?_
  intro e1 w1 h1
  have B1 := Lib.hid h1.2
  have H1 := Lib.hid h1
  obtain ⟨net, n, b, e1e, _⟩ := same_answer h1 h1
  subst e1e
  clear h1
  go_wp2_with fail
  go_at_call 9
  refine (parse_any l _ (HE.out.below (B1.out.alloc B1.out.size _)) h).mono ?_
  intro e2 w2 h2
  obtain ⟨net', n', b', ea, rfl⟩ := same_answer H1.out h2
  simp only [Ending.returned.injEq, Value.tuple.injEq, Array.mk.injEq, List.cons.injEq, Value.agg.injEq, Value.int.injEq, Value.bool.injEq, and_true, true_and] at ea
  obtain ⟨⟨rfl, rfl⟩, rfl⟩ := ea
  have r2 := box_later h2.2
  have B2 := Lib.hid (B1.out.trans ((unbox h2.2).mono B1.out.size))
  clear h2 H1
  go_wp2_with fail
  go_at_call 10
  refine (eqP_same _ _ _).mono ?_
  rintro e w3 ⟨rfl, hb3⟩
  have B3 := Lib.hid (B2.out.trans ((unbox hb3).mono B2.out.size))
  clear hb3
  have tb : (b != b) = false := by simp
  go_wp2_with fail
  go_ret
  exact ⟨rfl, B3.out⟩

theorem lawParse (s : ByteArray) (w : World) (hE : Env w) :
    Calls Tryd.prog 4 #[.string s] w fun e w' => e = .returned (.bool true) ∧ Below w.heap.size w w' := by
  have e : s = ⟨s.data.toList.toArray⟩ := by simp
  rw [e]
  by_cases h : s.data.toList.length ≤ 1048576
  · exact lawParse_short _ w h hE
  · exact lawParse_long _ w (by omega)

end Go.Proofs.YtegffibamkaeiaaDoor
