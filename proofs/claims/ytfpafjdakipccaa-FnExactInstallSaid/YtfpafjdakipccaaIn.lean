/- Install of the program. -/
import Derived.Test.YtfpafjdakipccaaKd
import Derived.Test.YtfpafjdakipccaaCq
import Derived.Test.YtfpafjdakipccaaCf
import Derived.Test.YtfpafjdakipccaaSi
namespace Go.Proofs.Ytfpafjdakipccaa
open Go.RowKit
structure In3 (w wr : World) (va u x : Value) (l : Ls) : Prop where
  c0 : wr.cell? ⟨w.heap.size, 0, none⟩ = some va
  d0 : wr.cell? ⟨w.heap.size + 1, 0, none⟩ = some (.int .i64 l.o)
  d1 : wr.cell? ⟨w.heap.size + 1, 1, none⟩ = some (.int .i64 l.s)
  d2 : wr.cell? ⟨w.heap.size + 1, 2, none⟩ = some (.int .i64 l.g)
  d3 : wr.cell? ⟨w.heap.size + 1, 3, none⟩ = some u
  d4 : wr.cell? ⟨w.heap.size + 1, 4, none⟩ = some x
  r : wr.cell? ⟨w.heap.size + 2, 0, none⟩ = some (.slice none 0 0)
  f : wr.frozen? ⟨w.heap.size + 2, 0, none⟩ = false
  size : w.heap.size + 3 <= wr.heap.size
  below : Below w.heap.size w wr
theorem In3.next {w wr w2 : World} {va u x : Value} {l : Ls} (h : In3 w wr va u x l) (hb : Below (w.heap.size + 3) wr w2) : In3 w w2 va u x l :=
  ⟨by rw [hb.cell (p := ⟨w.heap.size, 0, none⟩) (by show w.heap.size < _; omega)]; exact h.c0,
   by rw [hb.cell (p := ⟨w.heap.size + 1, 0, none⟩) (by show w.heap.size + 1 < _; omega)]; exact h.d0,
   by rw [hb.cell (p := ⟨w.heap.size + 1, 1, none⟩) (by show w.heap.size + 1 < _; omega)]; exact h.d1,
   by rw [hb.cell (p := ⟨w.heap.size + 1, 2, none⟩) (by show w.heap.size + 1 < _; omega)]; exact h.d2,
   by rw [hb.cell (p := ⟨w.heap.size + 1, 3, none⟩) (by show w.heap.size + 1 < _; omega)]; exact h.d3,
   by rw [hb.cell (p := ⟨w.heap.size + 1, 4, none⟩) (by show w.heap.size + 1 < _; omega)]; exact h.d4,
   by rw [hb.cell (p := ⟨w.heap.size + 2, 0, none⟩) (by show w.heap.size + 2 < _; omega)]; exact h.r,
   by rw [hb.frozen (p := ⟨w.heap.size + 2, 0, none⟩) (by show w.heap.size + 2 < _; omega)]; exact h.f,
   Nat.le_trans h.size hb.size, h.below.trans (hb.mono (by omega))⟩
set_option linter.unusedVariables false in
set_option maxRecDepth 100000 in
set_option maxHeartbeats 8000000 in
theorem iins_1 (D : List Ls) (l : Ls) (lo hi lo2 hi2 : Nat) (v u x : Value) (w : World) (hr : DRow w lo hi v D) (hr2 : LRow w lo2 hi2 u x l.K.length l.T.length (flat2 l.K) (flat l.T)) (hh : hi <= w.heap.size) (hh2 : hi2 <= w.heap.size) (hd : dtot D <= 1048576) (hv : dokB D = false) :
    Calls Try.prog 31 #[.agg #[v], .agg #[.int .i64 l.o, .int .i64 l.s, .int .i64 l.g, u, x]] w fun e w' => SinsPost D l w e w' := by
  have HV := Lib.hid hv
  have HC : Hid (icode D l = 3) := Lib.hid (if_neg (by rw [hv]; simp))
  have HI : Hid (inst D l = D) := Lib.hid (if_neg (by rw [HC.out]; decide))
  have R0 := Lib.hid hr
  have L0 := Lib.hid hr2
  obtain ⟨a, c, ev⟩ := hr.slice
  subst ev
  obtain ⟨u1, e1, u2, e2, q1, q2⟩ := hr2.slice
  subst q1 q2
  obtain ⟨n, hn⟩ : ∃ n, n = D.length := ⟨_, rfl⟩
  rw [<- hn] at R0 ⊢
  clear hr hr2 hn hv
  go_enter Try.func31, Try.ntmps31
  go_wp2_with fail
  obtain ⟨q0, hq0⟩ : ∃ q, q = ((w.alloc (.cells #[.slice a n c] 26)).alloc (.cells #[.int .i64 l.o, .int .i64 l.s, .int .i64 l.g, .slice u1 l.K.length e1, .slice u2 l.T.length e2] 33)).alloc (.cells #[.slice none 0 0] 26) := ⟨_, rfl⟩
  have I0 : Hid (In3 w q0 (.slice a n c) (.slice u1 l.K.length e1) (.slice u2 l.T.length e2) l) := Lib.hid (by
    rw [hq0]
    refine ⟨?_, ?_, ?_, ?_, ?_, ?_, ?_, ?_, ?_, ?_⟩
    · rw [old_box (by simp <;> omega), old_box (by simp), new_at rfl]; rfl
    all_goals first | (rw [old_box (by simp), new_at (by simp)]; rfl; done) | (rw [new_at (by simp)]; rfl; done) | (rw [new_frz (by simp)]; done) | (simp; done) | go_grown)
  rw [<- hq0]
  clear hq0
  have c0_ := I0.out.c0
  have d0_ := I0.out.d0
  have d1_ := I0.out.d1
  have d2_ := I0.out.d2
  have d3_ := I0.out.d3
  have d4_ := I0.out.d4
  have r_ := I0.out.r
  have f_ := I0.out.f
  have size_ := I0.out.size
  have hw1_ : w.heap.size < q0.heap.size := by omega
  have hw2_ : w.heap.size + 1 < q0.heap.size := by omega
  have hw3_ : w.heap.size + 2 < q0.heap.size := by omega
  go_wp2_with fail
  go_at_call 20
  refine (idbok_any D lo hi _ _ (R0.out.below I0.out.below hh) (by have := I0.out.size; omega)).mono ?_
  rw [HV.out]
  rintro e w1 ⟨rfl, hb1⟩
  have I1 : Hid (In3 w w1 (.slice a n c) (.slice u1 l.K.length e1) (.slice u2 l.T.length e2) l) := Lib.hid (I0.out.next (hb1.mono (I0.out.size)))
  clear c0_ d0_ d1_ d2_ d3_ d4_ r_ f_ size_ hw1_ hw2_ hw3_
  have c0_ := I1.out.c0
  have d0_ := I1.out.d0
  have d1_ := I1.out.d1
  have d2_ := I1.out.d2
  have d3_ := I1.out.d3
  have d4_ := I1.out.d4
  have r_ := I1.out.r
  have f_ := I1.out.f
  have size_ := I1.out.size
  have hw1_ : w.heap.size < w1.heap.size := by omega
  have hw2_ : w.heap.size + 1 < w1.heap.size := by omega
  have hw3_ : w.heap.size + 2 < w1.heap.size := by omega
  go_wp2_with fail
  go_at_call 49
  refine (idcopy_any D lo hi _ _ (R0.out.below I1.out.below hh) (by have := I1.out.size; omega) hd).mono ?_
  rintro e w2 ⟨rv, rfl, hrow, hb2⟩
  have I2 : Hid (In3 w w2 (.slice a n c) (.slice u1 l.K.length e1) (.slice u2 l.T.length e2) l) := Lib.hid (I1.out.next (hb2.mono (I1.out.size)))
  clear c0_ d0_ d1_ d2_ d3_ d4_ r_ f_ size_ hw1_ hw2_ hw3_
  have HW := Lib.hid hrow
  obtain ⟨ra, rc, rfl⟩ := hrow.slice
  clear hrow
  obtain ⟨n9, hn9⟩ : ∃ n, n = D.length := ⟨_, rfl⟩
  rw [<- hn9] at HW ⊢
  clear hn9
  have c0_ := I2.out.c0
  have d0_ := I2.out.d0
  have d1_ := I2.out.d1
  have d2_ := I2.out.d2
  have d3_ := I2.out.d3
  have d4_ := I2.out.d4
  have r_ := I2.out.r
  have f_ := I2.out.f
  have size_ := I2.out.size
  have hw1_ : w.heap.size < w2.heap.size := by omega
  have hw2_ : w.heap.size + 1 < w2.heap.size := by omega
  have hw3_ : w.heap.size + 2 < w2.heap.size := by omega
  go_wp2_with fail
  refine bodyPost_ret (v := .tuple #[.agg #[(.slice ra n9 rc)], .int .i64 3]) (by simp [results, Try.results31, go_sem, *]) rfl (sinsP (.slice ra n9 rc) (by rw [HC.out]) ?_ ?_)
  · rw [HI.out]
    exact ((HW.out.setCell (.inl (by have := I1.out.size; simp <;> omega)) _).wide (by have := I1.out.size; omega) (by simp [World.setCell]))
  · exact (I2.out.below.setCell (by simp <;> omega) _)
set_option linter.unusedVariables false in
set_option maxRecDepth 100000 in
set_option maxHeartbeats 8000000 in
theorem iins_2 (D : List Ls) (l : Ls) (lo hi lo2 hi2 : Nat) (v u x : Value) (w : World) (hr : DRow w lo hi v D) (hr2 : LRow w lo2 hi2 u x l.K.length l.T.length (flat2 l.K) (flat l.T)) (hh : hi <= w.heap.size) (hh2 : hi2 <= w.heap.size) (hd : dtot D <= 1048576) (hv : dokB D = true) (hl : l.ok = false) :
    Calls Try.prog 31 #[.agg #[v], .agg #[.int .i64 l.o, .int .i64 l.s, .int .i64 l.g, u, x]] w fun e w' => SinsPost D l w e w' := by
  have HV := Lib.hid hv
  have HL := Lib.hid ((Ls.ok_def l).trans hl)
  have HC : Hid (icode D l = 3) := Lib.hid (if_neg (by rw [hl]; simp))
  have HI : Hid (inst D l = D) := Lib.hid (if_neg (by rw [HC.out]; decide))
  have R0 := Lib.hid hr
  have L0 := Lib.hid hr2
  obtain ⟨a, c, ev⟩ := hr.slice
  subst ev
  obtain ⟨u1, e1, u2, e2, q1, q2⟩ := hr2.slice
  subst q1 q2
  obtain ⟨n, hn⟩ : ∃ n, n = D.length := ⟨_, rfl⟩
  rw [<- hn] at R0 ⊢
  clear hr hr2 hn hv hl
  obtain ⟨mid, m1, m2, r1, r2⟩ := L0.out
  have HR1 := Lib.hid r1
  have HR2 := Lib.hid r2
  clear r1 r2
  go_enter Try.func31, Try.ntmps31
  go_wp2_with fail
  obtain ⟨q0, hq0⟩ : ∃ q, q = ((w.alloc (.cells #[.slice a n c] 26)).alloc (.cells #[.int .i64 l.o, .int .i64 l.s, .int .i64 l.g, .slice u1 l.K.length e1, .slice u2 l.T.length e2] 33)).alloc (.cells #[.slice none 0 0] 26) := ⟨_, rfl⟩
  have I0 : Hid (In3 w q0 (.slice a n c) (.slice u1 l.K.length e1) (.slice u2 l.T.length e2) l) := Lib.hid (by
    rw [hq0]
    refine ⟨?_, ?_, ?_, ?_, ?_, ?_, ?_, ?_, ?_, ?_⟩
    · rw [old_box (by simp <;> omega), old_box (by simp), new_at rfl]; rfl
    all_goals first | (rw [old_box (by simp), new_at (by simp)]; rfl; done) | (rw [new_at (by simp)]; rfl; done) | (rw [new_frz (by simp)]; done) | (simp; done) | go_grown)
  rw [<- hq0]
  clear hq0
  have c0_ := I0.out.c0
  have d0_ := I0.out.d0
  have d1_ := I0.out.d1
  have d2_ := I0.out.d2
  have d3_ := I0.out.d3
  have d4_ := I0.out.d4
  have r_ := I0.out.r
  have f_ := I0.out.f
  have size_ := I0.out.size
  have hw1_ : w.heap.size < q0.heap.size := by omega
  have hw2_ : w.heap.size + 1 < q0.heap.size := by omega
  have hw3_ : w.heap.size + 2 < q0.heap.size := by omega
  go_wp2_with fail
  go_at_call 20
  refine (idbok_any D lo hi _ _ (R0.out.below I0.out.below hh) (by have := I0.out.size; omega)).mono ?_
  rw [HV.out]
  rintro e w1 ⟨rfl, hb1⟩
  have I1 : Hid (In3 w w1 (.slice a n c) (.slice u1 l.K.length e1) (.slice u2 l.T.length e2) l) := Lib.hid (I0.out.next (hb1.mono (I0.out.size)))
  clear c0_ d0_ d1_ d2_ d3_ d4_ r_ f_ size_ hw1_ hw2_ hw3_
  have c0_ := I1.out.c0
  have d0_ := I1.out.d0
  have d1_ := I1.out.d1
  have d2_ := I1.out.d2
  have d3_ := I1.out.d3
  have d4_ := I1.out.d4
  have r_ := I1.out.r
  have f_ := I1.out.f
  have size_ := I1.out.size
  have hw1_ : w.heap.size < w1.heap.size := by omega
  have hw2_ : w.heap.size + 1 < w1.heap.size := by omega
  have hw3_ : w.heap.size + 2 < w1.heap.size := by omega
  go_wp2_with fail
  go_at_call 56
  refine (ilok_any l.o l.s l.g lo2 mid mid hi2 _ _ _ _ l.K l.T _ rfl rfl (HR1.out.below I1.out.below (by omega)) (HR2.out.below I1.out.below hh2) (by have := I1.out.size; omega) (by have := I1.out.size; omega)).mono ?_
  rw [HL.out]
  rintro e w2 ⟨rfl, hb2⟩
  have I2 : Hid (In3 w w2 (.slice a n c) (.slice u1 l.K.length e1) (.slice u2 l.T.length e2) l) := Lib.hid (I1.out.next (hb2.mono (I1.out.size)))
  clear c0_ d0_ d1_ d2_ d3_ d4_ r_ f_ size_ hw1_ hw2_ hw3_
  have c0_ := I2.out.c0
  have d0_ := I2.out.d0
  have d1_ := I2.out.d1
  have d2_ := I2.out.d2
  have d3_ := I2.out.d3
  have d4_ := I2.out.d4
  have r_ := I2.out.r
  have f_ := I2.out.f
  have size_ := I2.out.size
  have hw1_ : w.heap.size < w2.heap.size := by omega
  have hw2_ : w.heap.size + 1 < w2.heap.size := by omega
  have hw3_ : w.heap.size + 2 < w2.heap.size := by omega
  go_wp2_with fail
  go_at_call 49
  refine (idcopy_any D lo hi _ _ (R0.out.below I2.out.below hh) (by have := I2.out.size; omega) hd).mono ?_
  rintro e w3 ⟨rv, rfl, hrow, hb3⟩
  have I3 : Hid (In3 w w3 (.slice a n c) (.slice u1 l.K.length e1) (.slice u2 l.T.length e2) l) := Lib.hid (I2.out.next (hb3.mono (I2.out.size)))
  clear c0_ d0_ d1_ d2_ d3_ d4_ r_ f_ size_ hw1_ hw2_ hw3_
  have HW := Lib.hid hrow
  obtain ⟨ra, rc, rfl⟩ := hrow.slice
  clear hrow
  obtain ⟨n9, hn9⟩ : ∃ n, n = D.length := ⟨_, rfl⟩
  rw [<- hn9] at HW ⊢
  clear hn9
  have c0_ := I3.out.c0
  have d0_ := I3.out.d0
  have d1_ := I3.out.d1
  have d2_ := I3.out.d2
  have d3_ := I3.out.d3
  have d4_ := I3.out.d4
  have r_ := I3.out.r
  have f_ := I3.out.f
  have size_ := I3.out.size
  have hw1_ : w.heap.size < w3.heap.size := by omega
  have hw2_ : w.heap.size + 1 < w3.heap.size := by omega
  have hw3_ : w.heap.size + 2 < w3.heap.size := by omega
  go_wp2_with fail
  refine bodyPost_ret (v := .tuple #[.agg #[(.slice ra n9 rc)], .int .i64 3]) (by simp [results, Try.results31, go_sem, *]) rfl (sinsP (.slice ra n9 rc) (by rw [HC.out]) ?_ ?_)
  · rw [HI.out]
    exact ((HW.out.setCell (.inl (by have := I2.out.size; simp <;> omega)) _).wide (by have := I2.out.size; omega) (by simp [World.setCell]))
  · exact (I3.out.below.setCell (by simp <;> omega) _)
set_option linter.unusedVariables false in
set_option maxRecDepth 100000 in
set_option maxHeartbeats 8000000 in
theorem iins_3 (D : List Ls) (l : Ls) (lo hi lo2 hi2 : Nat) (v u x : Value) (w : World) (hr : DRow w lo hi v D) (hr2 : LRow w lo2 hi2 u x l.K.length l.T.length (flat2 l.K) (flat l.T)) (hh : hi <= w.heap.size) (hh2 : hi2 <= w.heap.size) (hv : dokB D = true) (hl : l.ok = true) (hc : codeF (dfind D l.o) l = 0) :
    Calls Try.prog 31 #[.agg #[v], .agg #[.int .i64 l.o, .int .i64 l.s, .int .i64 l.g, u, x]] w fun e w' => SinsPost D l w e w' := by
  have HV := Lib.hid hv
  have HL := Lib.hid ((Ls.ok_def l).trans hl)
  have HOK := Lib.hid hl
  have HCF := Lib.hid hc
  have HC : Hid (icode D l = 0) := Lib.hid ((icode_ok hv hl).trans hc)
  have hI : inst D l = dput D l := if_pos HC.out
  have HFL : Hid (∀ S : List Int, S.Pairwise (· < ·) -> (∀ x, x ∈ S ↔ ((putF (dfind D) l) x).isSome = true) -> S.filterMap (putF (dfind D) l) = inst D l) := Lib.hid fun S h1 h2 => by
    rw [hI]
    rw [<- dfind_put hv hl] at h2 ⊢
    exact filt_dfind (dput_ok hv hl) h1 h2
  have R0 := Lib.hid hr
  have L0 := Lib.hid hr2
  obtain ⟨a, c, ev⟩ := hr.slice
  subst ev
  obtain ⟨u1, e1, u2, e2, q1, q2⟩ := hr2.slice
  subst q1 q2
  obtain ⟨n, hn⟩ : ∃ n, n = D.length := ⟨_, rfl⟩
  rw [<- hn] at R0 ⊢
  clear hr hr2 hn hv hl hc hI
  obtain ⟨mid, m1, m2, r1, r2⟩ := L0.out
  have HR1 := Lib.hid r1
  have HR2 := Lib.hid r2
  clear r1 r2
  go_enter Try.func31, Try.ntmps31
  go_wp2_with fail
  obtain ⟨q0, hq0⟩ : ∃ q, q = ((w.alloc (.cells #[.slice a n c] 26)).alloc (.cells #[.int .i64 l.o, .int .i64 l.s, .int .i64 l.g, .slice u1 l.K.length e1, .slice u2 l.T.length e2] 33)).alloc (.cells #[.slice none 0 0] 26) := ⟨_, rfl⟩
  have I0 : Hid (In3 w q0 (.slice a n c) (.slice u1 l.K.length e1) (.slice u2 l.T.length e2) l) := Lib.hid (by
    rw [hq0]
    refine ⟨?_, ?_, ?_, ?_, ?_, ?_, ?_, ?_, ?_, ?_⟩
    · rw [old_box (by simp <;> omega), old_box (by simp), new_at rfl]; rfl
    all_goals first | (rw [old_box (by simp), new_at (by simp)]; rfl; done) | (rw [new_at (by simp)]; rfl; done) | (rw [new_frz (by simp)]; done) | (simp; done) | go_grown)
  rw [<- hq0]
  clear hq0
  have c0_ := I0.out.c0
  have d0_ := I0.out.d0
  have d1_ := I0.out.d1
  have d2_ := I0.out.d2
  have d3_ := I0.out.d3
  have d4_ := I0.out.d4
  have r_ := I0.out.r
  have f_ := I0.out.f
  have size_ := I0.out.size
  have hw1_ : w.heap.size < q0.heap.size := by omega
  have hw2_ : w.heap.size + 1 < q0.heap.size := by omega
  have hw3_ : w.heap.size + 2 < q0.heap.size := by omega
  go_wp2_with fail
  go_at_call 20
  refine (idbok_any D lo hi _ _ (R0.out.below I0.out.below hh) (by have := I0.out.size; omega)).mono ?_
  rw [HV.out]
  rintro e w1 ⟨rfl, hb1⟩
  have I1 : Hid (In3 w w1 (.slice a n c) (.slice u1 l.K.length e1) (.slice u2 l.T.length e2) l) := Lib.hid (I0.out.next (hb1.mono (I0.out.size)))
  clear c0_ d0_ d1_ d2_ d3_ d4_ r_ f_ size_ hw1_ hw2_ hw3_
  have c0_ := I1.out.c0
  have d0_ := I1.out.d0
  have d1_ := I1.out.d1
  have d2_ := I1.out.d2
  have d3_ := I1.out.d3
  have d4_ := I1.out.d4
  have r_ := I1.out.r
  have f_ := I1.out.f
  have size_ := I1.out.size
  have hw1_ : w.heap.size < w1.heap.size := by omega
  have hw2_ : w.heap.size + 1 < w1.heap.size := by omega
  have hw3_ : w.heap.size + 2 < w1.heap.size := by omega
  go_wp2_with fail
  go_at_call 56
  refine (ilok_any l.o l.s l.g lo2 mid mid hi2 _ _ _ _ l.K l.T _ rfl rfl (HR1.out.below I1.out.below (by omega)) (HR2.out.below I1.out.below hh2) (by have := I1.out.size; omega) (by have := I1.out.size; omega)).mono ?_
  rw [HL.out]
  rintro e w2 ⟨rfl, hb2⟩
  have I2 : Hid (In3 w w2 (.slice a n c) (.slice u1 l.K.length e1) (.slice u2 l.T.length e2) l) := Lib.hid (I1.out.next (hb2.mono (I1.out.size)))
  clear c0_ d0_ d1_ d2_ d3_ d4_ r_ f_ size_ hw1_ hw2_ hw3_
  have c0_ := I2.out.c0
  have d0_ := I2.out.d0
  have d1_ := I2.out.d1
  have d2_ := I2.out.d2
  have d3_ := I2.out.d3
  have d4_ := I2.out.d4
  have r_ := I2.out.r
  have f_ := I2.out.f
  have size_ := I2.out.size
  have hw1_ : w.heap.size < w2.heap.size := by omega
  have hw2_ : w.heap.size + 1 < w2.heap.size := by omega
  have hw3_ : w.heap.size + 2 < w2.heap.size := by omega
  go_wp2_with fail
  go_at_call 50
  refine (shelf_any D lo hi _ _ (R0.out.below I2.out.below hh) (by have := I2.out.size; omega) HV.out).mono ?_
  rintro e w3 ⟨rfl, hsh, hb3⟩
  have I3 : Hid (In3 w w3 (.slice a n c) (.slice u1 l.K.length e1) (.slice u2 l.T.length e2) l) := Lib.hid (I2.out.next (hb3.mono (I2.out.size)))
  clear c0_ d0_ d1_ d2_ d3_ d4_ r_ f_ size_ hw1_ hw2_ hw3_
  obtain ⟨m, hm⟩ : ∃ q, q = w2.heap.size + 1 := ⟨_, rfl⟩
  rw [<- hm] at hsh ⊢
  have HSH := Lib.hid hsh
  have hml := hsh.lt
  have hB3 : w.heap.size + 3 <= m := by have := I2.out.size; omega
  have hB2 : hi2 <= w2.heap.size := by have := I2.out.size; omega
  obtain ⟨B, hB⟩ : ∃ q, q = w2.heap.size := ⟨_, rfl⟩
  rw [<- hB] at HSH hB2
  clear hsh hB hm
  have c0_ := I3.out.c0
  have d0_ := I3.out.d0
  have d1_ := I3.out.d1
  have d2_ := I3.out.d2
  have d3_ := I3.out.d3
  have d4_ := I3.out.d4
  have r_ := I3.out.r
  have f_ := I3.out.f
  have size_ := I3.out.size
  have hw1_ : w.heap.size < w3.heap.size := by omega
  have hw2_ : w.heap.size + 1 < w3.heap.size := by omega
  have hw3_ : w.heap.size + 2 < w3.heap.size := by omega
  go_wp2_with fail
  go_at_call 51
  refine (install_0 (dfind D) l m B lo2 hi2 _ _ _ HSH.out (shok_dfind HV.out) HOK.out (L0.out.below I3.out.below hh2) (by have := I3.out.size; omega) hB2 HCF.out).mono ?_
  rintro e w4 ⟨rfl, hsh2, hb4⟩
  have I4 : Hid (In3 w w4 (.slice a n c) (.slice u1 l.K.length e1) (.slice u2 l.T.length e2) l) := Lib.hid (I3.out.next (hb4.below hB3 I3.out.size))
  clear c0_ d0_ d1_ d2_ d3_ d4_ r_ f_ size_ hw1_ hw2_ hw3_
  have HS2 := Lib.hid hsh2
  clear hsh2
  have c0_ := I4.out.c0
  have d0_ := I4.out.d0
  have d1_ := I4.out.d1
  have d2_ := I4.out.d2
  have d3_ := I4.out.d3
  have d4_ := I4.out.d4
  have r_ := I4.out.r
  have f_ := I4.out.f
  have size_ := I4.out.size
  have hw1_ : w.heap.size < w4.heap.size := by omega
  have hw2_ : w.heap.size + 1 < w4.heap.size := by omega
  have hw3_ : w.heap.size + 2 < w4.heap.size := by omega
  go_wp2_with fail
  go_at_call 52
  refine (idb_any (putF (dfind D) l) m B _ HS2.out (shok_put (shok_dfind HV.out) HOK.out)).mono ?_
  rintro e w5 ⟨rv, ss, rfl, s1, s2, hrow, hb5⟩
  have I5 : Hid (In3 w w5 (.slice a n c) (.slice u1 l.K.length e1) (.slice u2 l.T.length e2) l) := Lib.hid (I4.out.next (hb5.mono (I4.out.size)))
  clear c0_ d0_ d1_ d2_ d3_ d4_ r_ f_ size_ hw1_ hw2_ hw3_
  have hfl : ss.filterMap (putF (dfind D) l) = inst D l := HFL.out ss s1 s2
  rw [hfl] at hrow
  have HW := Lib.hid hrow
  obtain ⟨ra, rc, rfl⟩ := hrow.slice
  clear hrow hfl s1 s2
  obtain ⟨n9, hn9⟩ : ∃ n, n = (inst D l).length := ⟨_, rfl⟩
  rw [<- hn9] at HW ⊢
  clear hn9
  have c0_ := I5.out.c0
  have d0_ := I5.out.d0
  have d1_ := I5.out.d1
  have d2_ := I5.out.d2
  have d3_ := I5.out.d3
  have d4_ := I5.out.d4
  have r_ := I5.out.r
  have f_ := I5.out.f
  have size_ := I5.out.size
  have hw1_ : w.heap.size < w5.heap.size := by omega
  have hw2_ : w.heap.size + 1 < w5.heap.size := by omega
  have hw3_ : w.heap.size + 2 < w5.heap.size := by omega
  go_wp2_with fail
  refine bodyPost_ret (v := .tuple #[.agg #[(.slice ra n9 rc)], .int .i64 0]) (by simp [results, Try.results31, go_sem, *]) rfl (sinsP (.slice ra n9 rc) (by rw [HC.out]) ?_ ?_)
  · exact ((HW.out.setCell (.inl (by have := I4.out.size; simp <;> omega)) _).wide (by have := I4.out.size; omega) (by simp [World.setCell]))
  · exact (I5.out.below.setCell (by simp <;> omega) _)
set_option linter.unusedVariables false in
set_option maxRecDepth 100000 in
set_option maxHeartbeats 8000000 in
theorem iins_4 (D : List Ls) (l : Ls) (lo hi lo2 hi2 : Nat) (v u x : Value) (w : World) (hr : DRow w lo hi v D) (hr2 : LRow w lo2 hi2 u x l.K.length l.T.length (flat2 l.K) (flat l.T)) (hh : hi <= w.heap.size) (hh2 : hi2 <= w.heap.size) (hv : dokB D = true) (hl : l.ok = true) (hc : codeF (dfind D l.o) l ≠ 0) :
    Calls Try.prog 31 #[.agg #[v], .agg #[.int .i64 l.o, .int .i64 l.s, .int .i64 l.g, u, x]] w fun e w' => SinsPost D l w e w' := by
  have HV := Lib.hid hv
  have HL := Lib.hid ((Ls.ok_def l).trans hl)
  have HOK := Lib.hid hl
  have HNZ : Hid (∀ z : Int, z = codeF (dfind D l.o) l -> z ≠ 0) := Lib.hid fun z hz => by rw [hz]; exact hc
  have HC0 : Hid (icode D l = codeF (dfind D l.o) l) := Lib.hid (icode_ok hv hl)
  have hI : inst D l = D := if_neg (by rw [HC0.out]; exact hc)
  have HFL : Hid (∀ S : List Int, S.Pairwise (· < ·) -> (∀ x, x ∈ S ↔ (dfind D x).isSome = true) -> S.filterMap (dfind D) = inst D l) := Lib.hid fun S h1 h2 => by
    rw [hI]
    exact filt_dfind hv h1 h2
  have R0 := Lib.hid hr
  have L0 := Lib.hid hr2
  obtain ⟨a, c, ev⟩ := hr.slice
  subst ev
  obtain ⟨u1, e1, u2, e2, q1, q2⟩ := hr2.slice
  subst q1 q2
  obtain ⟨n, hn⟩ : ∃ n, n = D.length := ⟨_, rfl⟩
  rw [<- hn] at R0 ⊢
  clear hr hr2 hn hv hl hc hI
  obtain ⟨mid, m1, m2, r1, r2⟩ := L0.out
  have HR1 := Lib.hid r1
  have HR2 := Lib.hid r2
  clear r1 r2
  go_enter Try.func31, Try.ntmps31
  go_wp2_with fail
  obtain ⟨q0, hq0⟩ : ∃ q, q = ((w.alloc (.cells #[.slice a n c] 26)).alloc (.cells #[.int .i64 l.o, .int .i64 l.s, .int .i64 l.g, .slice u1 l.K.length e1, .slice u2 l.T.length e2] 33)).alloc (.cells #[.slice none 0 0] 26) := ⟨_, rfl⟩
  have I0 : Hid (In3 w q0 (.slice a n c) (.slice u1 l.K.length e1) (.slice u2 l.T.length e2) l) := Lib.hid (by
    rw [hq0]
    refine ⟨?_, ?_, ?_, ?_, ?_, ?_, ?_, ?_, ?_, ?_⟩
    · rw [old_box (by simp <;> omega), old_box (by simp), new_at rfl]; rfl
    all_goals first | (rw [old_box (by simp), new_at (by simp)]; rfl; done) | (rw [new_at (by simp)]; rfl; done) | (rw [new_frz (by simp)]; done) | (simp; done) | go_grown)
  rw [<- hq0]
  clear hq0
  have c0_ := I0.out.c0
  have d0_ := I0.out.d0
  have d1_ := I0.out.d1
  have d2_ := I0.out.d2
  have d3_ := I0.out.d3
  have d4_ := I0.out.d4
  have r_ := I0.out.r
  have f_ := I0.out.f
  have size_ := I0.out.size
  have hw1_ : w.heap.size < q0.heap.size := by omega
  have hw2_ : w.heap.size + 1 < q0.heap.size := by omega
  have hw3_ : w.heap.size + 2 < q0.heap.size := by omega
  go_wp2_with fail
  go_at_call 20
  refine (idbok_any D lo hi _ _ (R0.out.below I0.out.below hh) (by have := I0.out.size; omega)).mono ?_
  rw [HV.out]
  rintro e w1 ⟨rfl, hb1⟩
  have I1 : Hid (In3 w w1 (.slice a n c) (.slice u1 l.K.length e1) (.slice u2 l.T.length e2) l) := Lib.hid (I0.out.next (hb1.mono (I0.out.size)))
  clear c0_ d0_ d1_ d2_ d3_ d4_ r_ f_ size_ hw1_ hw2_ hw3_
  have c0_ := I1.out.c0
  have d0_ := I1.out.d0
  have d1_ := I1.out.d1
  have d2_ := I1.out.d2
  have d3_ := I1.out.d3
  have d4_ := I1.out.d4
  have r_ := I1.out.r
  have f_ := I1.out.f
  have size_ := I1.out.size
  have hw1_ : w.heap.size < w1.heap.size := by omega
  have hw2_ : w.heap.size + 1 < w1.heap.size := by omega
  have hw3_ : w.heap.size + 2 < w1.heap.size := by omega
  go_wp2_with fail
  go_at_call 56
  refine (ilok_any l.o l.s l.g lo2 mid mid hi2 _ _ _ _ l.K l.T _ rfl rfl (HR1.out.below I1.out.below (by omega)) (HR2.out.below I1.out.below hh2) (by have := I1.out.size; omega) (by have := I1.out.size; omega)).mono ?_
  rw [HL.out]
  rintro e w2 ⟨rfl, hb2⟩
  have I2 : Hid (In3 w w2 (.slice a n c) (.slice u1 l.K.length e1) (.slice u2 l.T.length e2) l) := Lib.hid (I1.out.next (hb2.mono (I1.out.size)))
  clear c0_ d0_ d1_ d2_ d3_ d4_ r_ f_ size_ hw1_ hw2_ hw3_
  have c0_ := I2.out.c0
  have d0_ := I2.out.d0
  have d1_ := I2.out.d1
  have d2_ := I2.out.d2
  have d3_ := I2.out.d3
  have d4_ := I2.out.d4
  have r_ := I2.out.r
  have f_ := I2.out.f
  have size_ := I2.out.size
  have hw1_ : w.heap.size < w2.heap.size := by omega
  have hw2_ : w.heap.size + 1 < w2.heap.size := by omega
  have hw3_ : w.heap.size + 2 < w2.heap.size := by omega
  go_wp2_with fail
  go_at_call 50
  refine (shelf_any D lo hi _ _ (R0.out.below I2.out.below hh) (by have := I2.out.size; omega) HV.out).mono ?_
  rintro e w3 ⟨rfl, hsh, hb3⟩
  have I3 : Hid (In3 w w3 (.slice a n c) (.slice u1 l.K.length e1) (.slice u2 l.T.length e2) l) := Lib.hid (I2.out.next (hb3.mono (I2.out.size)))
  clear c0_ d0_ d1_ d2_ d3_ d4_ r_ f_ size_ hw1_ hw2_ hw3_
  obtain ⟨m, hm⟩ : ∃ q, q = w2.heap.size + 1 := ⟨_, rfl⟩
  rw [<- hm] at hsh ⊢
  have HSH := Lib.hid hsh
  have hml := hsh.lt
  have hB3 : w.heap.size + 3 <= m := by have := I2.out.size; omega
  have hB2 : hi2 <= w2.heap.size := by have := I2.out.size; omega
  obtain ⟨B, hB⟩ : ∃ q, q = w2.heap.size := ⟨_, rfl⟩
  rw [<- hB] at HSH hB2
  clear hsh hB hm
  obtain ⟨z, hz⟩ : ∃ z, z = codeF (dfind D l.o) l := ⟨_, rfl⟩
  have HZ := Lib.hid hz
  clear hz
  have c0_ := I3.out.c0
  have d0_ := I3.out.d0
  have d1_ := I3.out.d1
  have d2_ := I3.out.d2
  have d3_ := I3.out.d3
  have d4_ := I3.out.d4
  have r_ := I3.out.r
  have f_ := I3.out.f
  have size_ := I3.out.size
  have hw1_ : w.heap.size < w3.heap.size := by omega
  have hw2_ : w.heap.size + 1 < w3.heap.size := by omega
  have hw3_ : w.heap.size + 2 < w3.heap.size := by omega
  go_wp2_with fail
  go_at_call 51
  refine (install_1 (dfind D) l m B lo2 hi2 _ _ _ HSH.out (shok_dfind HV.out) HOK.out (L0.out.below I3.out.below hh2) (by have := I3.out.size; omega) (by rw [<- HZ.out]; exact HNZ.out z HZ.out)).mono ?_
  rw [<- HZ.out]
  rintro e w4 ⟨rfl, hb4⟩
  have I4 : Hid (In3 w w4 (.slice a n c) (.slice u1 l.K.length e1) (.slice u2 l.T.length e2) l) := Lib.hid (I3.out.next (hb4.mono (I3.out.size)))
  clear c0_ d0_ d1_ d2_ d3_ d4_ r_ f_ size_ hw1_ hw2_ hw3_
  have HS2 := Lib.hid (HSH.out.below hb4 hml)
  have c0_ := I4.out.c0
  have d0_ := I4.out.d0
  have d1_ := I4.out.d1
  have d2_ := I4.out.d2
  have d3_ := I4.out.d3
  have d4_ := I4.out.d4
  have r_ := I4.out.r
  have f_ := I4.out.f
  have size_ := I4.out.size
  have hw1_ : w.heap.size < w4.heap.size := by omega
  have hw2_ : w.heap.size + 1 < w4.heap.size := by omega
  have hw3_ : w.heap.size + 2 < w4.heap.size := by omega
  go_wp2_with fail
  go_at_call 52
  refine (idb_any (dfind D) m B _ HS2.out (shok_dfind HV.out)).mono ?_
  rintro e w5 ⟨rv, ss, rfl, s1, s2, hrow, hb5⟩
  have I5 : Hid (In3 w w5 (.slice a n c) (.slice u1 l.K.length e1) (.slice u2 l.T.length e2) l) := Lib.hid (I4.out.next (hb5.mono (I4.out.size)))
  clear c0_ d0_ d1_ d2_ d3_ d4_ r_ f_ size_ hw1_ hw2_ hw3_
  have hfl : ss.filterMap (dfind D) = inst D l := HFL.out ss s1 s2
  rw [hfl] at hrow
  have HW := Lib.hid hrow
  obtain ⟨ra, rc, rfl⟩ := hrow.slice
  clear hrow hfl s1 s2
  obtain ⟨n9, hn9⟩ : ∃ n, n = (inst D l).length := ⟨_, rfl⟩
  rw [<- hn9] at HW ⊢
  clear hn9
  have c0_ := I5.out.c0
  have d0_ := I5.out.d0
  have d1_ := I5.out.d1
  have d2_ := I5.out.d2
  have d3_ := I5.out.d3
  have d4_ := I5.out.d4
  have r_ := I5.out.r
  have f_ := I5.out.f
  have size_ := I5.out.size
  have hw1_ : w.heap.size < w5.heap.size := by omega
  have hw2_ : w.heap.size + 1 < w5.heap.size := by omega
  have hw3_ : w.heap.size + 2 < w5.heap.size := by omega
  go_wp2_with fail
  refine bodyPost_ret (v := .tuple #[.agg #[(.slice ra n9 rc)], .int .i64 z]) (by simp [results, Try.results31, go_sem, *]) rfl (sinsP (.slice ra n9 rc) (by rw [HC0.out, <- HZ.out]) ?_ ?_)
  · exact ((HW.out.setCell (.inl (by have := I4.out.size; simp <;> omega)) _).wide (by have := I4.out.size; omega) (by simp [World.setCell]))
  · exact (I5.out.below.setCell (by simp <;> omega) _)
theorem iinst_any (D : List Ls) (l : Ls) (lo hi lo2 hi2 : Nat) (v u x : Value) (w : World) (hr : DRow w lo hi v D) (hr2 : LRow w lo2 hi2 u x l.K.length l.T.length (flat2 l.K) (flat l.T)) (hh : hi <= w.heap.size) (hh2 : hi2 <= w.heap.size) (hd : dtot D <= 1048576) :
    Calls Try.prog 31 #[.agg #[v], .agg #[.int .i64 l.o, .int .i64 l.s, .int .i64 l.g, u, x]] w fun e w' => SinsPost D l w e w' := by
  cases hv : dokB D
  · exact iins_1 D l lo hi lo2 hi2 v u x w hr hr2 hh hh2 hd hv
  · cases hl : l.ok
    · exact iins_2 D l lo hi lo2 hi2 v u x w hr hr2 hh hh2 hd hv hl
    · by_cases hc : codeF (dfind D l.o) l = 0
      · exact iins_3 D l lo hi lo2 hi2 v u x w hr hr2 hh hh2 hv hl hc
      · exact iins_4 D l lo hi lo2 hi2 v u x w hr hr2 hh hh2 hv hl hc
end Go.Proofs.Ytfpafjdakipccaa
