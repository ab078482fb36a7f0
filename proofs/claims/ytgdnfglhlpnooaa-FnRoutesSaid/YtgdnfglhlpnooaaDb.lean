/- Draws: a prefix of one's own. -/
import Derived.Test.YtgdnfglhlpnooaaDa
namespace Go.Proofs.Ytgdnfglhlpnooaa
open Go.RowKit

theorem rt_some {w : World} {lo hi n : Nat} {v : Value} {L : List Rt} (_hL : L.length = n) (hr : Row 3 w lo hi v n (flat L)) (hn : 0 < n) : ∃ g c, v = .slice (some ⟨g, 0, none⟩) n c ∧ lo ≤ g ∧ g < hi ∧ n ≤ 1100000 := by
  rcases hr.2 with ⟨e, _⟩ | ⟨g, c, rfl, h1, h2, h3, _, _⟩
  · omega
  · exact ⟨g, c, rfl, h1, h2, h3⟩
theorem rt_cells {w : World} {lo hi n g c q : Nat} {L : List Rt} (hL : L.length = n) (hr : Row 3 w lo hi (.slice (some ⟨g, 0, none⟩) n c) n (flat L)) (hq : q < n) : ∃ e0 e1 e2 : Int, w.cell? ⟨g, q * 3, none⟩ = some (.int .i64 e0) ∧ w.cell? ⟨g, q * 3 + 1, none⟩ = some (.int .i64 e1) ∧ w.cell? ⟨g, q * 3 + 2, none⟩ = some (.int .i64 e2) := by
  obtain ⟨r, hr'⟩ : ∃ r, L[q]? = some r := ⟨L[q], List.getElem?_eq_getElem (by omega)⟩
  obtain ⟨r0, r1, r2⟩ := flat_at L q r hr'
  rcases hr.2 with ⟨e1, _⟩ | ⟨g', c', e1, _, _, _, hg, _⟩
  · omega
  · cases e1
    exact ⟨_, _, _, hg _ _ r0, hg _ _ r1, hg _ _ r2⟩

set_option maxRecDepth 100000 in
set_option maxHeartbeats 4000000 in
theorem down_any (C n cp i lo hi m : Nat) (a : Option Addr) (v : Value) (L : List Rt) (w : World) (h : Cur w C a n cp i) (old : ∀ p : Addr, a = some p → p.block < w.heap.size) (hL : L.length = m) (hr : Row 3 w lo hi v m (flat L)) (hh : hi ≤ w.heap.size) (hC : hi ≤ C ∨ C < lo) :
    Calls Try.prog 65 #[.pointer (some ⟨C, 0, none⟩), .agg #[v]] w (DpPost w C a n cp) := by
  have HC := Lib.hid h
  have Hold := Lib.hid old
  have hCl := h.lt
  clear h old
  by_cases hm : m = 0
  · subst hm
    obtain ⟨ad, c, rfl⟩ := hr.slice
    go_enter Try.func65, Try.ntmps65
    go_wp2_with fail
    obtain ⟨wa, hwa⟩ : ∃ qq, qq = (w.alloc (.cells #[.slice ad 0 c] 30)).alloc (.cells #[.int .i64 0, .int .i64 0] 34) := ⟨_, rfl⟩
    have hba : Below w.heap.size w wa := by rw [hwa]; go_grown
    have sza : wa.heap.size = w.heap.size + 1 + 1 := by rw [hwa]; simp
    have ra0 : wa.cell? ⟨w.heap.size + 1, 0, none⟩ = some (.int .i64 0) := by rw [hwa]; simp
    have ra1 : wa.cell? ⟨w.heap.size + 1, 1, none⟩ = some (.int .i64 0) := by rw [hwa]; simp
    have raf : ∀ o, wa.frozen? ⟨w.heap.size + 1, o, none⟩ = false := fun o => by rw [hwa]; simp
    have ca := HC.out.below hba
    rw [← hwa]
    clear hwa
    go_at_call 106
    refine (dpref_any C n cp _ a _ ca (fun p hp => by have := Hold.out p hp; omega)).mono ?_
    rintro e wb ⟨⟨p, q, rfl⟩, ⟨j, cb⟩, eb'⟩
    have eb := eb'
    have s0 : wb.cell? ⟨w.heap.size + 1, 0, none⟩ = some (.int .i64 0) := by rw [eb.cell (by omega) (by omega)]; exact ra0
    have s1 : wb.cell? ⟨w.heap.size + 1, 1, none⟩ = some (.int .i64 0) := by rw [eb.cell (by omega) (by omega)]; exact ra1
    have sf : ∀ o, wb.frozen? ⟨w.heap.size + 1, o, none⟩ = false := fun o => by rw [World.frozen?_of_block (w := wa) (a := ⟨w.heap.size + 1, o, none⟩) (eb.2.2.2.2 (w.heap.size + 1) (by omega) (by omega))]; exact raf o
    have g0 := sf 0
    have g1 := sf 1
    have HE : Hid (CurPost w C a n cp ((wb.setCell ⟨w.heap.size + 1, 0, none⟩ (.int .i64 p)).setCell ⟨w.heap.size + 1, 1, none⟩ (.int .i64 q))) := Lib.hid ⟨⟨_, (cb.far Hold.out hCl (by omega)).far Hold.out hCl (by omega)⟩, (((Else.of_below hba).trans eb).set' (by omega) 0 _).set' (by omega) 1 _⟩
    obtain ⟨u0, u1⟩ := res2 (u := .int .i64 p) (v := .int .i64 q) s0 s1
    clear eb eb' cb sf
    go_wp2_with fail
    exact bodyPost_ret (v := .agg #[.int .i64 p, .int .i64 q]) (by simp [results, Try.results65, go_sem, u0, u1]) rfl ⟨⟨_, _, rfl⟩, HE.out⟩
  · obtain ⟨g, c, rfl, hg0, hg1, hmm⟩ := rt_some hL hr (by omega)
    have HR := Lib.hid hr
    clear hr
    go_enter Try.func65, Try.ntmps65
    have dm : decide (0 < (m : Int)) = true := decide_eq_true (by omega)
    go_wp2_with fail
    obtain ⟨wa, hwa⟩ : ∃ qq, qq = (w.alloc (.cells #[.slice (some ⟨g, 0, none⟩) m c] 30)).alloc (.cells #[.int .i64 0, .int .i64 0] 34) := ⟨_, rfl⟩
    have hba : Below w.heap.size w wa := by rw [hwa]; go_grown
    have sza : wa.heap.size = w.heap.size + 1 + 1 := by rw [hwa]; simp
    have ra : wa.cell? ⟨w.heap.size, 0, none⟩ = some (.slice (some ⟨g, 0, none⟩) m c) := by rw [hwa]; simp
    have ra0 : wa.cell? ⟨w.heap.size + 1, 0, none⟩ = some (.int .i64 0) := by rw [hwa]; simp
    have ra1 : wa.cell? ⟨w.heap.size + 1, 1, none⟩ = some (.int .i64 0) := by rw [hwa]; simp
    have raf : ∀ o, wa.frozen? ⟨w.heap.size + 1, o, none⟩ = false := fun o => by rw [hwa]; simp
    have ca := HC.out.below hba
    have HRa := Lib.hid (HR.out.below hba hh)
    rw [← hwa]
    clear hwa
    go_at_call 87
    refine (once_any C a n cp i 3 _ ca (by omega)).mono ?_
    rintro e w2 ⟨⟨bo, rfl⟩, ⟨j2, c2⟩, e2⟩
    have sz2 := e2.2.2.2.1
    have r2 : w2.cell? ⟨w.heap.size, 0, none⟩ = some (.slice (some ⟨g, 0, none⟩) m c) := by rw [e2.cell (by omega) (by omega)]; exact ra
    cases bo with
    | true =>
      go_wp2_with fail
      go_at_call 106
      refine (dpref_any C n cp _ a _ c2 (fun p hp => by have := Hold.out p hp; omega)).mono ?_
      rintro e wb ⟨⟨p, q, rfl⟩, ⟨j, cb⟩, eb'⟩
      have eb := e2.trans eb'
      have s0 : wb.cell? ⟨w.heap.size + 1, 0, none⟩ = some (.int .i64 0) := by rw [eb.cell (by omega) (by omega)]; exact ra0
      have s1 : wb.cell? ⟨w.heap.size + 1, 1, none⟩ = some (.int .i64 0) := by rw [eb.cell (by omega) (by omega)]; exact ra1
      have sf : ∀ o, wb.frozen? ⟨w.heap.size + 1, o, none⟩ = false := fun o => by rw [World.frozen?_of_block (w := wa) (a := ⟨w.heap.size + 1, o, none⟩) (eb.2.2.2.2 (w.heap.size + 1) (by omega) (by omega))]; exact raf o
      have g0 := sf 0
      have g1 := sf 1
      have HE : Hid (CurPost w C a n cp ((wb.setCell ⟨w.heap.size + 1, 0, none⟩ (.int .i64 p)).setCell ⟨w.heap.size + 1, 1, none⟩ (.int .i64 q))) := Lib.hid ⟨⟨_, (cb.far Hold.out hCl (by omega)).far Hold.out hCl (by omega)⟩, (((Else.of_below hba).trans eb).set' (by omega) 0 _).set' (by omega) 1 _⟩
      obtain ⟨u0, u1⟩ := res2 (u := .int .i64 p) (v := .int .i64 q) s0 s1
      clear eb eb' cb sf
      go_wp2_with fail
      exact bodyPost_ret (v := .agg #[.int .i64 p, .int .i64 q]) (by simp [results, Try.results65, go_sem, u0, u1]) rfl ⟨⟨_, _, rfl⟩, HE.out⟩
    | false =>
      go_wp2_with fail
      go_region_law (
        go_simp
        go_at_call 67
        refine (below_any C a n cp _ (m : Int) _ (by first | exact c2 | exact c2.below (Below.refl _ _).drew) (by omega)).mono ?_
        rintro e w3 ⟨⟨x, rfl, x0, x1, -⟩, ⟨j3, c3⟩, e3⟩
        have x2 := x1 (by omega)
        obtain ⟨X, rfl⟩ : ∃ X : Nat, x = (X : Int) := ⟨x.toNat, by omega⟩
        have hXm : X < m := by omega
        have eb : Else C wa w3 := e2.trans e3
        have HR3 := HRa.out.else_ eb (by omega) hC
        obtain ⟨z0, z1, z2, y0, y1, -⟩ := rt_cells hL HR3 hXm
        have rb : w3.cell? ⟨w.heap.size, 0, none⟩ = some (.slice (some ⟨g, 0, none⟩) m c) := by rw [eb.cell (by omega) (by omega)]; exact ra
        have s0 : w3.cell? ⟨w.heap.size + 1, 0, none⟩ = some (.int .i64 0) := by rw [eb.cell (by omega) (by omega)]; exact ra0
        have s1 : w3.cell? ⟨w.heap.size + 1, 1, none⟩ = some (.int .i64 0) := by rw [eb.cell (by omega) (by omega)]; exact ra1
        have sf : ∀ o, w3.frozen? ⟨w.heap.size + 1, o, none⟩ = false := fun o => by rw [World.frozen?_of_block (w := wa) (a := ⟨w.heap.size + 1, o, none⟩) (eb.2.2.2.2 (w.heap.size + 1) (by omega) (by omega))]; exact raf o
        have g0 := sf 0
        have g1 := sf 1
        have HE : Hid (CurPost w C a n cp ((w3.setCell ⟨w.heap.size + 1, 0, none⟩ (.int .i64 z0)).setCell ⟨w.heap.size + 1, 1, none⟩ (.int .i64 z1))) := Lib.hid ⟨⟨_, (c3.far Hold.out hCl (by omega)).far Hold.out hCl (by omega)⟩, (((Else.of_below hba).trans eb).set' (by omega) 0 _).set' (by omega) 1 _⟩
        obtain ⟨u0, u1⟩ := res2 (u := .int .i64 z0) (v := .int .i64 z1) s0 s1
        clear HR3 eb e3 c3 sf x1
        )
      all_goals
        go_wp2_with fail
        exact bodyPost_ret (v := .agg #[.int .i64 z0, .int .i64 z1]) (by simp [results, Try.results65, go_sem, u0, u1]) rfl ⟨⟨_, _, rfl⟩, HE.out⟩

end Go.Proofs.Ytgdnfglhlpnooaa
