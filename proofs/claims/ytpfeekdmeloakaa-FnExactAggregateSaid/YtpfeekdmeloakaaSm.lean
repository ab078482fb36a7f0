/- Aggregate of the specification, and of the program, as contracts with one answer. -/
import Derived.Test.YtpfeekdmeloakaaSl
namespace Go.Proofs.Ytpfeekdmeloakaa
open Go.RowKit

def aggOut (L R : List Pf) : List Pf := if allOk L = true then aggR R else []
theorem aggOut_yes {L R : List Pf} (h : allOk L = true) : aggOut L R = aggR R := if_pos h
theorem aggOut_no {L R : List Pf} (h : allOk L = false) : aggOut L R = [] := if_neg (by rw [h]; decide)

set_option maxHeartbeats 2000000 in
theorem sagg_any (lo hi n : Nat) (v : Value) (L R : List Pf) (w : World) (hL : L.length = n) (hr : Row 2 w lo hi v n (flat2 L)) (hh : hi ≤ w.heap.size) (hl : n ≤ 1100000) (hS : allOk L = true → Says (anyP L) R) :
    Calls Try.prog 34 #[v] w fun e w' => ∃ rv, e = .returned (.tuple #[rv, .bool (allOk L)]) ∧ Row 2 w' w.heap.size w'.heap.size rv (aggOut L R).length (flat2 (aggOut L R)) ∧ Below w.heap.size w w' := by
  have hm := marks_any lo hi n v L w hL hr hh hl
  obtain ⟨ad, c, rfl⟩ := hr.slice
  have HM := Lib.hid hm
  have HS := Lib.hid hS
  clear hm hr hS
  go_enter Try.func34, Try.ntmps34
  go_wp2_with fail
  go_at_call 77
  refine HM.out.mono ?_
  rintro e w1 (⟨ha, rfl, hM⟩ | ⟨ha, rfl, hB⟩)
  · have HC := Lib.hid (blocks_any w.heap.size (anyP L) R w1 hM.2.2.1 hM.2.2.2.2 (HS.out ha))
    have HB := Lib.hid hM.1
    have Ha := Lib.hid ha
    clear hM HM ha HS
    go_wp2_with fail
    go_at_call 78
    refine HC.out.mono ?_
    rintro e w2 ⟨rv, rfl, hr2, hB2⟩
    obtain ⟨ra, rc, hrv⟩ := hr2.slice
    subst hrv
    have HR := Lib.hid (hr2.wide (lo' := w.heap.size) HB.out.size (Nat.le_refl _))
    have HBf := Lib.hid (chain HB.out hB2)
    clear hr2 hB2 HC
    go_wp2
    refine bodyPost_ret (v := .tuple #[.slice ra (aggR R).length rc, .bool true]) (by simp [results, Try.results34, go_sem]) rfl ?_
    exact ⟨_, by rw [Ha.out], by rw [aggOut_yes Ha.out]; exact HR.out, HBf.out⟩
  · have Ha := Lib.hid ha
    have HB := Lib.hid hB
    clear hB HM ha HS
    go_wp2
    refine bodyPost_ret (v := .tuple #[.slice none 0 0, .bool false]) (by simp [results, Try.results34, go_sem]) rfl ?_
    exact ⟨_, by rw [Ha.out], by rw [aggOut_no Ha.out]; exact Row.empty _ _ _ _ _ _, HB.out⟩

theorem iagg_any (lo hi n : Nat) (v : Value) (L R : List Pf) (w : World) (hL : L.length = n) (hr : Row 2 w lo hi v n (flat2 L)) (hh : hi ≤ w.heap.size) (hl : n ≤ 1100000) (hS : allOk L = true → Says (anyP L) R) :
    Calls Try.prog 36 #[v] w fun e w' => ∃ rv, e = .returned (.tuple #[rv, .bool (allOk L)]) ∧ Row 2 w' w.heap.size w'.heap.size rv (aggOut L R).length (flat2 (aggOut L R)) ∧ Below w.heap.size w w' := by
  by_cases ha : allOk L = true
  · rw [ha, aggOut_yes ha]
    have ha' := ha
    unfold allOk at ha'
    rw [Bool.and_eq_true, decide_eq_true_eq, List.all_eq_true] at ha'
    exact iagg_yes lo hi n v L R w hL hr hh (by omega) ha'.2 (hS ha)
  · rw [Bool.not_eq_true] at ha
    rw [ha, aggOut_no ha]
    exact iagg_no lo hi n v L w hL hr hh hl ha
end Go.Proofs.Ytpfeekdmeloakaa
