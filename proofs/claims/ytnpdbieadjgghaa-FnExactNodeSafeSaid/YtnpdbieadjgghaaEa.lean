/- Alternates, Remote and NodeSafe of the program. -/
import Derived.Test.YtnpdbieadjgghaaRo
import Derived.Test.YtnpdbieadjgghaaAl
import Derived.Test.YtnpdbieadjgghaaRm
import Derived.Test.YtnpdbieadjgghaaGd
namespace Go.Proofs.Ytnpdbieadjgghaa
open Go.RowKit

set_option maxRecDepth 100000 in
set_option maxHeartbeats 4000000 in
theorem ialt_any (N : Int) (lo hi n : Nat) (v : Value) (L : List Ed) (s f d : Int) (w : World) (hL : L.length = n) (hr : Row 3 w lo hi v n (flat L)) (hh : hi ≤ w.heap.size) :
    Calls Try.prog 18 #[.agg #[.int .i64 N, v], .int .i64 s, .int .i64 f, .int .i64 d] w (LjPost (altL N L s f d) w) := by
  have HR := Lib.hid hr
  obtain ⟨ad, cp, rfl⟩ := hr.slice
  clear hr
  have b0 : Below w.heap.size w (w.alloc (.cells #[.int .i64 N, .slice ad n cp] 29)) := (Below.refl _ _).alloc (Nat.le_refl _) _
  have HB0 := Lib.hid b0
  have HR0 := Lib.hid (HR.out.below b0 hh)
  clear b0
  go_enter Try.func18, Try.ntmps18
  go_wp2_with fail
  go_at_call 59
  refine (repair_any N lo hi n _ L s f d _ hL HR0.out (by simp; omega)).mono ?_
  rintro e w1 ⟨b1, hcase⟩
  have HB1 : Hid (Below w.heap.size w w1) := HB0.out.trans (b1.mono (by simp))
  have s1 := b1.size
  simp only [World.size_alloc] at s1
  clear b1
  rcases hcase with ⟨hg, rfl⟩ | ⟨hg, X, M, s', f', d', rfl, rfl, rfl, rfl, hsM, hfM, hdM, rfl, hX, hS⟩
  · have HV : Hid (altL N L s f d = []) := by show altL _ _ _ _ _ = []; unfold altL; rw [hg, if_neg (by decide)]
    clear hg
    go_wp2
    go_ret
    exact ⟨_, rfl, by rw [HV.out]; exact Row.empty _ _ _ _ _ _, HB1.out.trans (Below.alloc (Below.refl _ _) HB1.out.size _)⟩
  · have HV : Hid (altL (M : Int) L (s' : Int) (f' : Int) (d' : Int) = firstN M (altB (M : Int) L (s' : Int) (f' : Int) (d' : Int))) := by show altL _ _ _ _ _ = _; unfold altL; rw [hg, if_pos rfl, firstN_nodes]
    simp only [World.size_alloc] at hX
    have hbx : Below w1.heap.size w1 (w1.alloc (.cells #[.pointer (some ⟨X, 0, none⟩), .int .i64 (s' : Int), .int .i64 (f' : Int), .int .i64 (d' : Int)] 69)) := (Below.refl _ _).alloc (Nat.le_refl _) _
    have HN := Lib.hid (nodes_61 (rpV X s' f' d') X M L _ _ (hS.grow hbx) (alternate_any X M s' f' d' L hsM hdM))
    have HBX := Lib.hid (HB1.out.trans (hbx.mono HB1.out.size))
    clear hg hS hbx
    unfold rpV at HN ⊢
    go_wp2_with fail
    go_at_call 60
    refine HN.out.mono ?_
    rintro e w2 ⟨rv, rfl, hrow, hk, -⟩
    have hsz := HBX.out.size
    have HE := Lib.hid (And.intro (hrow.wide (lo' := w.heap.size) hsz (Nat.le_refl _)) (HBX.out.trans (hk.but.below (by omega) hsz)))
    clear hrow hk HN
    go_wp2
    go_ret
    exact ⟨_, rfl, by rw [HV.out]; exact HE.out.1, HE.out.2⟩

set_option maxRecDepth 100000 in
set_option maxHeartbeats 4000000 in
theorem irem_any (N : Int) (lo hi n : Nat) (v : Value) (L : List Ed) (s f d : Int) (w : World) (hL : L.length = n) (hr : Row 3 w lo hi v n (flat L)) (hh : hi ≤ w.heap.size) :
    Calls Try.prog 30 #[.agg #[.int .i64 N, v], .int .i64 s, .int .i64 f, .int .i64 d] w (LjPost (remL N L s f d) w) := by
  have HR := Lib.hid hr
  obtain ⟨ad, cp, rfl⟩ := hr.slice
  clear hr
  have b0 : Below w.heap.size w (w.alloc (.cells #[.int .i64 N, .slice ad n cp] 29)) := (Below.refl _ _).alloc (Nat.le_refl _) _
  have HB0 := Lib.hid b0
  have HR0 := Lib.hid (HR.out.below b0 hh)
  clear b0
  go_enter Try.func30, Try.ntmps30
  go_wp2_with fail
  go_at_call 59
  refine (repair_any N lo hi n _ L s f d _ hL HR0.out (by simp; omega)).mono ?_
  rintro e w1 ⟨b1, hcase⟩
  have HB1 : Hid (Below w.heap.size w w1) := HB0.out.trans (b1.mono (by simp))
  have s1 := b1.size
  simp only [World.size_alloc] at s1
  clear b1
  rcases hcase with ⟨hg, rfl⟩ | ⟨hg, X, M, s', f', d', rfl, rfl, rfl, rfl, hsM, hfM, hdM, rfl, hX, hS⟩
  · have HV : Hid (remL N L s f d = []) := by show remL _ _ _ _ _ = []; unfold remL; rw [hg, if_neg (by simp)]
    clear hg
    go_wp2
    go_ret
    exact ⟨_, rfl, by rw [HV.out]; exact Row.empty _ _ _ _ _ _, HB1.out.trans (Below.alloc (Below.refl _ _) HB1.out.size _)⟩
  · by_cases hsd : (s' : Int) = (d' : Int)
    · have HV : Hid (remL (M : Int) L (s' : Int) (f' : Int) (d' : Int) = []) := by show remL _ _ _ _ _ = []; unfold remL; rw [if_neg (fun h => h.2 hsd)]
      have hq : ((s' : Int) == (d' : Int)) = true := by rw [hsd]; simp
      clear hg hsd
      unfold rpV
      go_wp2
      go_ret
      exact ⟨_, rfl, by rw [HV.out]; exact Row.empty _ _ _ _ _ _, HB1.out.trans (Below.alloc (Below.refl _ _) HB1.out.size _)⟩
    · have HV : Hid (remL (M : Int) L (s' : Int) (f' : Int) (d' : Int) = firstN M (remB (M : Int) L (s' : Int) (f' : Int) (d' : Int))) := by show remL _ _ _ _ _ = _; unfold remL; rw [if_pos ⟨hg, hsd⟩, firstN_nodes]
      have hq : ((s' : Int) == (d' : Int)) = false := beq_eq_false_iff_ne.2 hsd
      simp only [World.size_alloc] at hX
      have hbx : Below w1.heap.size w1 (w1.alloc (.cells #[.pointer (some ⟨X, 0, none⟩), .int .i64 (s' : Int), .int .i64 (f' : Int), .int .i64 (d' : Int)] 69)) := (Below.refl _ _).alloc (Nat.le_refl _) _
      have HN := Lib.hid (nodes_70 (rpV X s' f' d') X M L _ _ (hS.grow hbx) (remote_any X M s' f' d' L hsM hfM hdM))
      have HBX := Lib.hid (HB1.out.trans (hbx.mono HB1.out.size))
      clear hg hS hbx hsd
      unfold rpV at HN ⊢
      go_wp2_with fail
      go_at_call 60
      refine HN.out.mono ?_
      rintro e w2 ⟨rv, rfl, hrow, hk, -⟩
      have hsz := HBX.out.size
      have HE := Lib.hid (And.intro (hrow.wide (lo' := w.heap.size) hsz (Nat.le_refl _)) (HBX.out.trans (hk.but.below (by omega) hsz)))
      clear hrow hk HN
      go_wp2
      go_ret
      exact ⟨_, rfl, by rw [HV.out]; exact HE.out.1, HE.out.2⟩

set_option maxRecDepth 100000 in
set_option maxHeartbeats 4000000 in
theorem isafe_any (N : Int) (lo hi n : Nat) (v : Value) (L : List Ed) (s x f d : Int) (w : World) (hL : L.length = n) (hr : Row 3 w lo hi v n (flat L)) (hh : hi ≤ w.heap.size) :
    Calls Try.prog 26 #[.agg #[.int .i64 N, v], .int .i64 s, .int .i64 x, .int .i64 f, .int .i64 d] w fun e w' => e = .returned (.bool (safeB N L s x f d)) ∧ Below w.heap.size w w' := by
  have HR := Lib.hid hr
  obtain ⟨ad, cp, rfl⟩ := hr.slice
  clear hr
  have b0 : Below w.heap.size w (w.alloc (.cells #[.int .i64 N, .slice ad n cp] 29)) := (Below.refl _ _).alloc (Nat.le_refl _) _
  have HB0 := Lib.hid b0
  have HR0 := Lib.hid (HR.out.below b0 hh)
  clear b0
  have C0 : Hid ((w.alloc (.cells #[.int .i64 N, .slice ad n cp] 29)).cell? ⟨w.heap.size, 0, none⟩ = some (.int .i64 N) ∧ (w.alloc (.cells #[.int .i64 N, .slice ad n cp] 29)).cell? ⟨w.heap.size, 1, none⟩ = some (.slice ad n cp)) := ⟨by simp, by simp⟩
  go_enter Try.func26, Try.ntmps26
  go_wp2_with fail
  go_at_call 59
  refine (repair_any N lo hi n _ L s f d _ hL HR0.out (by simp; omega)).mono ?_
  rintro e w1 ⟨b1, hcase⟩
  have HB1 : Hid (Below w.heap.size w w1) := HB0.out.trans (b1.mono (by simp))
  have s1 := b1.size
  simp only [World.size_alloc] at s1
  have c0 : w1.cell? ⟨w.heap.size, 0, none⟩ = some (.int .i64 N) := by rw [b1.cell (p := ⟨w.heap.size, 0, none⟩) (by simp)]; exact C0.out.1
  have c1 : w1.cell? ⟨w.heap.size, 1, none⟩ = some (.slice ad n cp) := by rw [b1.cell (p := ⟨w.heap.size, 1, none⟩) (by simp)]; exact C0.out.2
  clear b1
  rcases hcase with ⟨hg, rfl⟩ | ⟨hg, X, M, s', f', d', rfl, rfl, rfl, rfl, hsM, hfM, hdM, rfl, hX, hS⟩
  · have HV : Hid (safeB N L s x f d = false) := by show safeB _ _ _ _ _ _ = false; unfold safeB; rw [hg]; rfl
    clear hg
    go_wp2
    go_ret
    exact ⟨by rw [HV.out]; rfl, HB1.out.trans (Below.alloc (Below.refl _ _) HB1.out.size _)⟩
  · have HG := Lib.hid hg
    have hXl := hS.lt
    simp only [World.size_alloc] at hX
    have hbx : Below w1.heap.size w1 (w1.alloc (.cells #[.pointer (some ⟨X, 0, none⟩), .int .i64 (s' : Int), .int .i64 (f' : Int), .int .i64 (d' : Int)] 69)) := (Below.refl _ _).alloc (Nat.le_refl _) _
    have HBX := Lib.hid (HB1.out.trans (hbx.mono HB1.out.size))
    have HS := Lib.hid (hS.grow hbx)
    have c0' : (w1.alloc (.cells #[.pointer (some ⟨X, 0, none⟩), .int .i64 (s' : Int), .int .i64 (f' : Int), .int .i64 (d' : Int)] 69)).cell? ⟨w.heap.size, 0, none⟩ = some (.int .i64 (M : Int)) := by rw [old_box (by omega)]; exact c0
    have c1' : (w1.alloc (.cells #[.pointer (some ⟨X, 0, none⟩), .int .i64 (s' : Int), .int .i64 (f' : Int), .int .i64 (d' : Int)] 69)).cell? ⟨w.heap.size, 1, none⟩ = some (.slice ad n cp) := by rw [old_box (by omega)]; exact c1
    clear hg hbx hS c0 c1
    unfold rpV
    go_wp2_with fail
    go_at_call 66
    refine (hasNode_any (M : Int) _ _ _ x _).mono ?_
    rintro e w2 ⟨rfl, b2⟩
    have HB2 := Lib.hid (HBX.out.trans (b2.mono HBX.out.size))
    have HS2 := Lib.hid (HS.out.grow b2)
    have hs2 := b2.size
    simp only [World.size_alloc] at hs2
    by_cases hn : ndB (M : Int) x = true
    · have hn2 := hn
      unfold ndB at hn2
      rw [inB_iff] at hn2
      obtain ⟨x', rfl⟩ : ∃ q : Nat, x = (q : Int) := ⟨x.toNat, by omega⟩
      have hxM : x' < M := by omega
      have y0 : w2.cell? ⟨w1.heap.size, 0, none⟩ = some (.pointer (some ⟨X, 0, none⟩)) := by rw [b2.cell (p := ⟨w1.heap.size, 0, none⟩) (by simp)]; simp
      have y1 : w2.cell? ⟨w1.heap.size, 1, none⟩ = some (.int .i64 (s' : Int)) := by rw [b2.cell (p := ⟨w1.heap.size, 1, none⟩) (by simp)]; simp
      have y2 : w2.cell? ⟨w1.heap.size, 2, none⟩ = some (.int .i64 (f' : Int)) := by rw [b2.cell (p := ⟨w1.heap.size, 2, none⟩) (by simp)]; simp
      have y3 : w2.cell? ⟨w1.heap.size, 3, none⟩ = some (.int .i64 (d' : Int)) := by rw [b2.cell (p := ⟨w1.heap.size, 3, none⟩) (by simp)]; simp
      have HN := Lib.hid hn
      rw [hn]
      have DA := Lib.hid (alternate_any X M s' f' d' L hsM hdM x' w2 HS2.out hxM)
      unfold rpV at DA
      clear hn hn2 b2 c0' c1' HBX HS
      go_wp2_with fail
      go_at_call 61
      refine DA.out.mono ?_
      rintro e w3 ⟨rfl, k3, -⟩
      have y4 : w3.cell? ⟨w1.heap.size, 0, none⟩ = some (.pointer (some ⟨X, 0, none⟩)) := by rw [k3.but.cell (by omega) (by omega)]; exact y0
      have K3 := Lib.hid k3
      have DV := Lib.hid (avoids_any X M x' f' d' L w3 k3.sv hxM hfM hdM)
      have HB3 := Lib.hid (HB2.out.trans (k3.but.below (by omega) HB2.out.size))
      have HV : Hid (safeB (M : Int) L (s' : Int) (x' : Int) (f' : Int) (d' : Int) = (altB (M : Int) L (s' : Int) (f' : Int) (d' : Int) (x' : Int) && avB (M : Int) L (x' : Int) (f' : Int) (d' : Int))) := by show safeB _ _ _ _ _ _ = _; unfold safeB; rw [HG.out, HN.out]; rfl
      clear k3 DA
      generalize altB (M : Int) L (s' : Int) (f' : Int) (d' : Int) (x' : Int) = q1 at *
      generalize avB (M : Int) L (x' : Int) (f' : Int) (d' : Int) = q2 at *
      cases q1 with
      | false =>
        go_wp2
        go_ret
        exact ⟨by rw [HV.out]; rfl, HB3.out⟩
      | true =>
        go_wp2_with fail
        go_at_call 67
        refine DV.out.mono ?_
        rintro e w4 ⟨rfl, k4, -⟩
        have HB4 := Lib.hid (HB3.out.trans (k4.but.below (by omega) HB3.out.size))
        clear k4 DV
        go_wp2
        go_ret
        exact ⟨by rw [HV.out]; rfl, HB4.out⟩
    · rw [Bool.not_eq_true] at hn
      have HV : Hid (safeB (M : Int) L (s' : Int) x (f' : Int) (d' : Int) = false) := by show safeB _ _ _ _ _ _ = _; unfold safeB; rw [hn]; simp
      rw [hn]
      clear hn b2
      go_wp2
      go_ret
      exact ⟨by rw [HV.out]; rfl, HB2.out⟩

end Go.Proofs.Ytnpdbieadjgghaa
