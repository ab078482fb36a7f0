/- The halves, the last address and the equality of prefixes in this seat, as contracts. -/
import Derived.Test.YtpfeekdmeloakaaWb
import Derived.Test.YtpfeekdmeloakaaReg
namespace Go.Proofs.Ytpfeekdmeloakaa
open Go.RowKit

set_option maxHeartbeats 1000000 in
theorem last_any (net n : Int) (w : World) (h0 : 0 ≤ n) (h1 : n ≤ 16) (h2 : 0 ≤ net) (h3 : net ≤ 65535) :
    Calls Try.prog 109 #[.agg #[.int .i64 net, .int .i64 n]] w fun e w' => e = .returned (.int .i64 (net + psz n - 1)) ∧ Below w.heap.size w w' := by
  have hp := psz_pos n h0 h1
  have hq := psz_le n h0 h1
  have e1 : IntKind.i64.wrap (net + psz n) = net + psz n := IntWalk.i64_in _ (by omega)
  have e2 : IntKind.i64.wrap (net + psz n - 1) = net + psz n - 1 := IntWalk.i64_in _ (by omega)
  go_enter Try.func109, Try.ntmps109
  go_wp2_with fail
  go_region_held3 (fun w' => w'.cell? ⟨w.heap.size, 0, none⟩ = some (.int .i64 net) ∧ w'.cell? ⟨w.heap.size, 1, none⟩ = some (.int .i64 n) ∧ w.heap.size < w'.heap.size ∧ Below w.heap.size w w') (first | assumption | exact box_keep0 _ _ _ _ | exact box_keep (by assumption) (by assumption))
    (first | (go_at_call 130; refine (size_any _ _ _ h0 h1).mono ?_; rintro e w2 ⟨rfl, hb⟩))
  go_wp2_with fail
  go_ret
  exact ⟨rfl, box_below (by assumption)⟩

set_option maxHeartbeats 1000000 in
theorem ihalves_any (net n : Int) (w : World) (h0 : 0 ≤ n) (h16 : n < 16) (h2 : 0 ≤ net) (h3 : net ≤ 65535) :
    Calls Try.prog 117 #[.agg #[.int .i64 net, .int .i64 n]] w fun e w' => e = .returned (.tuple #[.agg #[.int .i64 net, .int .i64 (n + 1)], .agg #[.int .i64 (net + psz (n + 1)), .int .i64 (n + 1)]]) ∧ Below w.heap.size w w' := by
  have hp := psz_pos (n + 1) (by omega) (by omega)
  have hq := psz_le (n + 1) (by omega) (by omega)
  have e0 : IntKind.i64.wrap (n + 1) = n + 1 := IntWalk.i64_in _ (by omega)
  have e1 : IntKind.i64.wrap (net + psz (n + 1)) = net + psz (n + 1) := IntWalk.i64_in _ (by omega)
  go_enter Try.func117, Try.ntmps117
  go_wp2_with fail
  go_region_held3 (fun w' => w'.cell? ⟨w.heap.size, 0, none⟩ = some (.int .i64 net) ∧ w'.cell? ⟨w.heap.size, 1, none⟩ = some (.int .i64 n) ∧ w'.cell? ⟨w.heap.size + 1 + 1 + 1, 0, none⟩ = some (.int .i64 net) ∧ w'.cell? ⟨w.heap.size + 1 + 1 + 1, 1, none⟩ = some (.int .i64 (n + 1))) (first | assumption | (simp [go_sem]; done) | (simp [*, go_sem]; done)) (first | (go_at_call 130; refine (size_any _ _ _ (by omega) (by omega)).mono ?_; rintro e w3 ⟨rfl, hb⟩; have hB : Below w.heap.size w w3 := Below.trans (by go_grown) (hb.mono (by simp <;> omega)); obtain ⟨hc3, hf3⟩ := bcell hb; have k0 := hc3 (w.heap.size) 0 (by simp <;> omega); have k1 := hc3 (w.heap.size) 1 (by simp <;> omega); have k2 := hc3 (w.heap.size + 1) 0 (by simp <;> omega); have k3 := hc3 (w.heap.size + 1) 1 (by simp <;> omega); have k4 := hc3 (w.heap.size + 1 + 1) 0 (by simp <;> omega); have k5 := hc3 (w.heap.size + 1 + 1) 1 (by simp <;> omega); have k6 := hc3 (w.heap.size + 1 + 1 + 1) 0 (by simp <;> omega); have k7 := hc3 (w.heap.size + 1 + 1 + 1) 1 (by simp <;> omega); have f0 := hf3 (w.heap.size + 1) 0 (by simp <;> omega); have f1 := hf3 (w.heap.size + 1) 1 (by simp <;> omega); have f2 := hf3 (w.heap.size + 1 + 1) 0 (by simp <;> omega); have f3 := hf3 (w.heap.size + 1 + 1) 1 (by simp <;> omega); simp [go_sem] at k0; simp [go_sem] at k1; simp [go_sem] at k2; simp [go_sem] at k3; simp [go_sem] at k4; simp [go_sem] at k5; simp [go_sem] at k6; simp [go_sem] at k7; simp [go_sem] at f0; simp [go_sem] at f1; simp [go_sem] at f2; simp [go_sem] at f3; clear hc3 hf3))
  all_goals
    go_wp2_with fail
    refine bodyPost_ret (v := .tuple #[.agg #[.int .i64 net, .int .i64 (n + 1)], .agg #[.int .i64 (net + psz (n + 1)), .int .i64 (n + 1)]]) (by simp [results, Try.results117, go_sem, *]) rfl ⟨rfl, ?_⟩
    exact (((hB.setCell (by simp) _).setCell (by simp) _).setCell (by simp <;> omega) _).setCell (by simp <;> omega) _

end Go.Proofs.Ytpfeekdmeloakaa
