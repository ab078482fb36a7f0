/- impl.between. -/
import Derived.Test.YtjenjdhoblcohaaAs
import Derived.Deep.QuietTactic
import Derived.BigQuiet
namespace Go.Proofs.Ytjenjdhoblcohaa
open Go.RowKit


/-- Whether z is on a shortest path from x to y, by the distances. -/
def btwB (N : Int) (L : List Ed) (x y z : Int) : Bool := (dsT N L x y != 1000000) && (dsT N L x z + dsT N L z y == dsT N L x y)
theorem dsT_bn2 {N : Int} {L : List Ed} (hG : gok N L = true) (s x : Int) : 0 ≤ dsT N L s x ∧ dsT N L s x ≤ 1000000 := rounds_bnd hG s N.toNat x
set_option maxRecDepth 100000 in
set_option maxHeartbeats 2400000 in
theorem btw_any (M x y z : Nat) (L : List Ed) (v : Value) (w0 w : World) (hG : gok (M : Int) L = true) (hS : SSx w0 w v M (adZ (M : Int) L)) (hx : x < M) (hy : y < M) (hz : z < M) :
    Calls Try.prog 76 #[v, .int .i64 (x : Int), .int .i64 (y : Int), .int .i64 (z : Int)] w fun e w' => e = .returned (.bool (btwB (M : Int) L (x : Int) (y : Int) (z : Int))) ∧ Below w.heap.size w w' := by
  have hN2 := (gok_parts hG).2.1
  obtain ⟨G, cap, rfl, hGl, hget⟩ := hS.get (by omega)
  obtain ⟨gx, cx, ex, lx, fx⟩ := hget x hx (by rw [adZ_len hG hx]; omega)
  obtain ⟨gz, cz, ez, lz, fz⟩ := hget z hz (by rw [adZ_len hG hz]; omega)
  rw [adZ_len hG hx] at ex
  rw [adZ_len hG hz] at ez
  have axy := fx y _ (adZ_at hG hx hy)
  have axz := fx z _ (adZ_at hG hx hz)
  have azy := fz y _ (adZ_at hG hz hy)
  have b1 := dsT_bn2 hG (x : Int) (z : Int)
  have b2 := dsT_bn2 hG (z : Int) (y : Int)
  have hB : btwB (M : Int) L (x : Int) (y : Int) (z : Int) = ((dsT (M : Int) L (x : Int) (y : Int) != 1000000) && (dsT (M : Int) L (x : Int) (z : Int) + dsT (M : Int) L (z : Int) (y : Int) == dsT (M : Int) L (x : Int) (y : Int))) := rfl
  rw [hB]
  generalize dsT (M : Int) L (x : Int) (y : Int) = dxy at *
  generalize dsT (M : Int) L (x : Int) (z : Int) = dxz at *
  generalize dsT (M : Int) L (z : Int) (y : Int) = dzy at *
  have e1 : IntKind.i64.wrap (dxz + dzy) = dxz + dzy := IntWalk.i64_in _ (by omega)
  have p1 : (0 : Int) ≤ (x : Int) := by omega
  have p2 : (x : Int) < (M : Int) := by omega
  have p3 : (0 : Int) ≤ (y : Int) := by omega
  have p4 : (y : Int) < (M : Int) := by omega
  have p5 : (0 : Int) ≤ (z : Int) := by omega
  have p6 : (z : Int) < (M : Int) := by omega
  clear fx fz hget hB hS b1 b2
  by_cases h : dxy = 1000000
  · have h1 : (dxy != 1000000) = false := by simp [h]
    clear h
    go_enter Try.func76, Try.ntmps76
    go_wp2_with fail
    go_quiet (fail)
    go_wp2_with fail
    go_ret
    exact ⟨by rw [h1]; rfl, below_drewN _ _⟩
  · have h1 : (dxy != 1000000) = true := by simp [h]
    clear h
    go_enter Try.func76, Try.ntmps76
    go_wp2_with fail
    go_quiet (fail)
    go_wp2_with fail
    go_ret
    exact ⟨by rw [h1]; rfl, below_drewN _ _⟩

end Go.Proofs.Ytjenjdhoblcohaa
