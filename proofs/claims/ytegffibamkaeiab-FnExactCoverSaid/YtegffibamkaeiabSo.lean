/- A slice of prefixes that the call itself has made: its row, as the append's law has it, and what holds it. -/
import Derived.Test.YtegffibamkaeiabSm
import Derived.Test.YtegffibamkaeiabMc
import Derived.OwnWalk
import Derived.Laws.AppendOwn
namespace Go.Proofs.Ytegffibamkaeiab
open Go.RowKit

/-- The cells of a list of prefixes. -/
def vals (L : List (Int × Int)) : List Value := L.flatMap fun p => [.int .i64 p.1, .int .i64 p.2]
theorem vals_len : ∀ L, (vals L).length = L.length * 2
  | [] => rfl
  | p :: L => by
    have e : vals (p :: L) = .int .i64 p.1 :: .int .i64 p.2 :: vals L := rfl
    rw [e, List.length_cons, List.length_cons, vals_len L, List.length_cons]; omega
theorem vals_app (L M : List (Int × Int)) : vals (L ++ M) = vals L ++ vals M := by simp [vals]
theorem vals_at : ∀ (L : List (Int × Int)) (i : Nat) (p : Int × Int), L[i]? = some p → (vals L)[i * 2]? = some (.int .i64 p.1) ∧ (vals L)[i * 2 + 1]? = some (.int .i64 p.2)
  | [], i, p, h => by simp at h
  | q :: L, 0, p, h => by
    simp only [List.getElem?_cons_zero, Option.some.injEq] at h
    subst h
    exact ⟨rfl, rfl⟩
  | q :: L, i + 1, p, h => by
    have := vals_at L i p (by simpa using h)
    have e : vals (q :: L) = .int .i64 q.1 :: .int .i64 q.2 :: vals L := rfl
    rw [e, show (i + 1) * 2 = i * 2 + 1 + 1 by omega]
    simpa using this

theorem row_of_own {w : World} {base : Nat} {v : Value} {L : List (Int × Int)} (h : w.ownsRow base 39 2 v L.length (vals L)) (hl : L.length ≤ 1000000) : Row w base w.heap.size v L := by
  have hlt := h.lt
  have hcells := fun g hg => h.cells (g := g) hg
  obtain ⟨h1, h2⟩ := h
  rcases h2 with ⟨rfl, h3⟩ | ⟨g, cap, cur, rfl, h3, h4, h5, h6, h7, h8⟩
  · exact .inl ⟨List.eq_nil_of_length_eq_zero h3, none, 0, rfl⟩
  · obtain ⟨_, hg⟩ := hlt g rfl
    refine .inr ⟨g, cap, rfl, h3, hg, hl, fun i p hp => ?_, fun o => ?_⟩
    · obtain ⟨a, b⟩ := vals_at L i p hp
      have e : ∀ j, (⟨g, 0, none⟩ : Addr).add j = ⟨g, j, none⟩ := fun j => by unfold Addr.add; split <;> simp_all
      have c0 := hcells g rfl _ _ a
      have c1 := hcells g rfl _ _ b
      rw [e] at c0 c1
      exact ⟨c0, c1⟩
    · simp [World.frozen?, h4]

theorem Try.info39 : (Try.prog.info? 39).map (fun i => (i.zero, i.size, i.bytes)) = some (some (.agg #[.int .i64 0, .int .i64 0]), 2, 16) := by kernel_rfl
theorem Try.under22 : Try.prog.underlying 22 = some (.slice 39) := Try.underlying22

end Go.Proofs.Ytegffibamkaeiab
