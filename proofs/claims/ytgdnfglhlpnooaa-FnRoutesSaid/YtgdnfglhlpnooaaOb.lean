/- What an argument of bytes is. -/
import Derived.Test.YtgdnfglhlpnooaaOpen
import Derived.Test.YtgdnfglhlpnooaaDr
import Derived.ProofKit
import Derived.Below
import Derived.Carry
namespace Go.Proofs.Ytgdnfglhlpnooaa
open Go.ChangeShapes Go.WideShapes Go.ChangeAt Go.RowKit Go.Joins

theorem Try.cells5 : Try.prog.cellsOf 5 = 1 := by kernel_rfl
theorem Try.read46 : Try.prog.readableRec 46 = true ∧ 46 < Try.prog.types.size := ⟨by kernel_rfl, of_decide_eq_true (by kernel_rfl)⟩
theorem lt_of_shape {w : World} {b : Nat} {x : TypeId × Nat} (h : w.shape? b = some x) : b < w.heap.size := by
  unfold World.shape? at h
  by_cases hb : b < w.heap.size
  · exact hb
  · rw [Array.getElem?_eq_none (by omega)] at h
    cases h
set_option maxRecDepth 100000 in
theorem open_bytes {H : Type} {enc : TypeId × Value → H} {W : World} {base : Nat} {v : Value} {d : DataW H} {p : List MemPlace} {r : Reach} {b : Nat}
    (hv : Value.okWide Try.prog W r base 46 v) (h : DataW.Trod enc Try.prog W b (fun _ => true) true 46 v d p) : ∃ a n c, v = .slice a n c ∧ (n ≤ 1099511627776 → BytesAt W a n) ∧ n ≤ maxLen ∧ ∀ p : Addr, a = some p → p.block < W.heap.size := by
  obtain ⟨a, l, c, rfl⟩ := okWide_slice Try.underlying46 hv
  obtain ⟨fuel, hf⟩ := h
  rcases open_ints Try.underlying46 Try.underlying5 Try.cells5 hf with ⟨e, _⟩ | ⟨a', len, cap, zs, e, hb, hl, hm, hlen, _, hat, hwf⟩
  · have e2 : Value.slice a l c = .slice none 0 0 := by simpa [Value.cells] using e
    cases e2
    exact ⟨none, 0, 0, rfl, fun _ => ⟨by omega, fun h => absurd h (Nat.lt_irrefl _)⟩, Nat.zero_le _, fun p e => by cases e⟩
  · have e2 : Value.slice a l c = .slice (some a') len cap := by simpa [Value.cells] using e
    cases e2
    have hlt : a'.block < W.heap.size ∧ a'.spot = none := by
      simp only [Value.okWide, Try.underlying46, Cell.okWide, Cell.ok] at hv
      obtain ⟨_, _, _, hs, row, cells, hsh, _⟩ := hv
      exact ⟨lt_of_shape hsh, hs⟩
    refine ⟨some a', l, c, rfl, fun hn => ⟨hn, fun h0 => ?_⟩, by omega, fun p e => by cases e; exact hlt.1⟩
    obtain ⟨b, off, spot⟩ := a'
    obtain ⟨hb1, hb2⟩ := hlt
    simp only at hb2
    subst hb2
    refine ⟨b, off, rfl, hb1, fun q hq => ?_⟩
    have hz : q < zs.length := by rw [hlen]; simp; omega
    have h1 := hat q hz
    have h2 := hwf (zs.getD q 0) (by rw [List.getD_eq_getElem?_getD, List.getElem?_eq_getElem hz]; exact List.getElem_mem hz)
    have e3 : (⟨b, off, none⟩ : Addr).add q = ⟨b, off + q, none⟩ := by unfold Addr.add; split <;> simp_all
    rw [e3] at h1
    generalize zs.getD q 0 = z at h1 h2
    refine ⟨z, h1, ?_⟩
    simp [Lit.wf, show IntKind.u8.min = 0 from rfl, show IntKind.u8.max = 255 from rfl] at h2
    omega

end Go.Proofs.Ytgdnfglhlpnooaa
