/- The ranges of a list of prefixes, of the program, as a contract on rows: what the loop keeps. -/
import Derived.Test.YtpfeekdmeloakaaSb
import Derived.Test.YtpfeekdmeloakaaCl
import Derived.Test.YtpfeekdmeloakaaWx
import Derived.Laws.OwnMore
import Derived.Deep.AppendLies
import Derived.Deep.RegionLaw
namespace Go.Proofs.Ytpfeekdmeloakaa
open Go.RowKit

theorem mrg_len (R : List Pf) (p : Pf) : 0 < (mrg R p).length ∧ (mrg R p).length ≤ R.length + 1 := by
  rcases List.eq_nil_or_concat R with rfl | ⟨R', r, rfl⟩
  · simp [mrg_nil]
  · rw [List.concat_eq_append, mrg_last]
    split <;> simp
theorem mrgs_len (L : List Pf) : (mrgs L).length ≤ L.length := by
  induction L using snoc_ind with
  | h0 => simp [mrgs]
  | h1 L p ih => rw [mrgs_snoc]; have := (mrg_len (mrgs L) p).2; simp; omega
theorem take_snoc {L : List Pf} {k : Nat} {p : Pf} (h : L[k]? = some p) : L.take (k + 1) = L.take k ++ [p] := by
  rw [List.take_add_one, h]; rfl
theorem flat2_one (p : Pf) : flat2 [p] = [p.1, p.2] := rfl

/-- What the loop keeps: the ranges so far, R, lie in a row of the call's own. -/
def RgRel (w wr : World) (v : Value) (R : List Pf) : Prop :=
  Below w.heap.size w wr ∧ wr.ownsRow w.heap.size 102 2 v R.length (ints (flat2 R))
theorem RgRel.start (w : World) : RgRel w w (.slice none 0 0) [] := ⟨Below.refl _ _, by simp [ints, flat2], .inl ⟨rfl, rfl⟩⟩
theorem RgRel.form {w wr : World} {v : Value} {R : List Pf} {r : Pf} (h : RgRel w wr v (R ++ [r])) :
    ∃ g cap, v = .slice (some ⟨g, 0, none⟩) (R.length + 1) cap ∧ w.heap.size ≤ g ∧ g < wr.heap.size ∧ wr.cell? ⟨g, R.length * 2, none⟩ = some (.int .i64 r.1) ∧ wr.cell? ⟨g, R.length * 2 + 1, none⟩ = some (.int .i64 r.2) ∧ ∀ o, wr.frozen? ⟨g, o, none⟩ = false := by
  have h1 := h.2
  obtain ⟨g, cap, rfl, hb, hlt⟩ := h1.form (by simp)
  have e : (R ++ [r])[R.length]? = some r := by simp
  obtain ⟨f0, f1⟩ := flat2_at _ _ _ e
  refine ⟨g, cap, by simp, hb, hlt, ?_, ?_, fun o => h1.frozenAt o⟩
  · rw [h1.cellAt _ (by simp <;> omega)]; exact ints_at f0
  · rw [h1.cellAt _ (by simp <;> omega)]; exact ints_at f1
theorem RgRel.below {w wr w2 : World} {v : Value} {R : List Pf} (h : RgRel w wr v R) (hb : Below wr.heap.size wr w2) : RgRel w w2 v R := by
  refine ⟨chain h.1 hb, ?_⟩
  obtain ⟨h1, h2⟩ := h.2
  refine ⟨h1, ?_⟩
  rcases h2 with h2 | ⟨g, cap, cur, e, h3, h4, h5⟩
  · exact .inl h2
  · refine .inr ⟨g, cap, cur, e, h3, ?_, h5⟩
    rw [hb.block g (Array.getElem?_eq_some_iff.1 h4).1]
    exact h4
theorem set_last (R : List Pf) (r : Pf) (x : Int) : (ints (flat2 (R ++ [r]))).set (R.length * 2 + 1) (.int .i64 x) = ints (flat2 (R ++ [(r.1, x)])) := by
  have e : R.length * 2 = (ints (flat2 R)).length := by rw [ints_len, flat2_len]
  rw [flat2_app, flat2_app, ints_app, ints_app, e, List.set_append_right _ _ (by omega), Nat.add_sub_cancel_left]
  rfl
theorem RgRel.put {w wr : World} {g cap : Nat} {R : List Pf} {r : Pf} (h : RgRel w wr (.slice (some ⟨g, 0, none⟩) (R.length + 1) cap) (R ++ [r])) (x : Int) :
    RgRel w (wr.setCell ⟨g, R.length * 2 + 1, none⟩ (.int .i64 x)) (.slice (some ⟨g, 0, none⟩) (R.length + 1) cap) (R ++ [(r.1, x)]) := by
  have h1 := h.2
  have hg := (h1.lt g rfl)
  refine ⟨h.1.setCell hg.1 _, ?_⟩
  rw [show (R ++ [(r.1, x)]).length = R.length + 1 by simp, ← set_last]
  rw [show (R ++ [r]).length = R.length + 1 by simp] at h1
  exact (h1.stored _ _).1
theorem RgRel.drewN {w wr : World} {v : Value} {R : List Pf} (h : RgRel w wr v R) (q : Nat) : RgRel w (wr.drewN q) v R := ⟨⟨h.1.os, h.1.tape, h.1.output, h.1.size, h.1.block⟩, h.2⟩
theorem RgRel.own {w wr : World} {v : Value} {R : List Pf} {n : Nat} (h : RgRel w wr v R) (hn : n = R.length) : wr.ownsRow w.heap.size 102 2 v n (ints (flat2 R)) := by subst hn; exact h.2
theorem RgRel.putAt {w wr : World} {g cap m : Nat} {R : List Pf} {rf rt : Int} (h : RgRel w wr (.slice (some ⟨g, 0, none⟩) (m + 1) cap) (R ++ [(rf, rt)])) (hm : m = R.length) (x : Int) :
    RgRel w (wr.setCell ⟨g, m * 2 + 1, none⟩ (.int .i64 x)) (.slice (some ⟨g, 0, none⟩) (m + 1) cap) (R ++ [(rf, x)]) := by subst hm; exact h.put x
theorem undrew {w w3 : World} (h : Below w.drew.heap.size w.drew w3) : Below w.heap.size w w3 := ⟨h.os, h.tape, h.output, h.size, h.block⟩
theorem RgRel.app {w wr w1 : World} {v v' : Value} {R : List Pf} {x y : Int} {o : Obj} {m : Nat} (h : RgRel w wr v R) (hg : (wr.alloc o).grownBy w1 v.ownBlock) (hm : m = R.length + 1)
    (hown : w1.ownsRow w.heap.size 102 2 v' m (ints (flat2 R) ++ [.int .i64 x, .int .i64 y])) : RgRel w w1 v' (R ++ [(x, y)]) := by
  subst hm
  refine ⟨(h.1.alloc h.1.size o).grown hg (by have := h.1.size; simp; omega) (fun k hk => (h.2.lt k hk).1), ?_⟩
  rw [flat2_app, flat2_one, ints_app, List.length_append]
  exact hown
theorem cell_two_new (w : World) (x y : Value) (T : TypeId) (j : Nat) (u : Value) (h : [x, y][j]? = some u) : (w.alloc (.cells #[x, y] T)).cell? ((⟨w.heap.size, 0, none⟩ : Addr).add j) = some u := by
  rw [add_none]
  rcases j with _ | _ | j
  · simp at h; subst h; simp
  · simp at h; subst h; simp
  · simp at h
theorem two_one (x y : Int) : ∀ u ∈ [Value.int .i64 x, Value.int .i64 y], u.oneCell' = true := by
  intro u hu
  simp at hu
  rcases hu with rfl | rfl <;> rfl
theorem Try.info102 : (Try.prog.info? 102).map (fun i => (i.zero, i.size, i.bytes)) = some (some (.agg #[.int .i64 0, .int .i64 0]), 2, 16) := by kernel_rfl
end Go.Proofs.Ytpfeekdmeloakaa
