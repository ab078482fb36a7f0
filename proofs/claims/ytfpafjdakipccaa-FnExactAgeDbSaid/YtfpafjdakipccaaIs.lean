/- AgeDb of the specification. -/
import Derived.Test.YtfpafjdakipccaaAg
import Derived.Test.YtfpafjdakipccaaCp
import Derived.Test.YtfpafjdakipccaaOo
import Derived.Test.YtfpafjdakipccaaGi
namespace Go.Proofs.Ytfpafjdakipccaa
open Go.RowKit


/-- What AgeDb of the specification hands back. -/
def SAgePost (D : List Ls) (by_ : Int) (w : World) (e : Ending) (w' : World) : Prop := ∃ (rv gv : Value), e = .returned (.tuple #[.agg #[rv], gv]) ∧ DRow w' w.heap.size w'.heap.size rv (agD D by_) ∧ Row 1 w' w.heap.size w'.heap.size gv (agG D by_).length (agG D by_) ∧ Below w.heap.size w w'
theorem sageP {D : List Ls} {by_ : Int} {w w' : World} {e : Ending} (rv gv : Value) (h1 : e = .returned (.tuple #[.agg #[rv], gv])) (h2 : DRow w' w.heap.size w'.heap.size rv (agD D by_)) (h3 : Row 1 w' w.heap.size w'.heap.size gv (agG D by_).length (agG D by_)) (h5 : Below w.heap.size w w') : SAgePost D by_ w e w' := ⟨rv, gv, h1, h2, h3, h5⟩
theorem Own.rowed {E : TypeId} {k : Nat} {w wr w' : World} {v : Value} {n : Nat} {X : List Value} {row : Option Nat} (h : Own E k w wr v n X) (hg : wr.grownBy w' row) (hr : ∀ j, row = some j → w.heap.size ≤ j) (hne : v.ownBlock = none ∨ v.ownBlock ≠ row) : Own E k w w' v n X :=
  ⟨h.below.trans ⟨hg.os, hg.tape, hg.output, hg.size, fun j hj => hg.block j (Nat.lt_of_lt_of_le hj h.below.size) (fun e => by have := hr j e.symm; omega)⟩, h.row.kept hg hne⟩
/-- The gathered rows stay where another slice's own block turns. -/
theorem OutE.but {w3 wr w4 : World} {X : Nat} {rv : Value} {E : List Ent} {og : Option Nat} (h : OutE w3 wr X rv E) (hos : w4.os = wr.os) (htp : w4.tape = wr.tape) (hout : w4.output = wr.output) (hz : wr.heap.size ≤ w4.heap.size)
    (hk : ∀ b, b < wr.heap.size → og ≠ some b → w4.heap[b]? = wr.heap[b]?) (g1 : ∀ g, og = some g → X < g ∧ rv.ownBlock ≠ some g ∧ ∀ e ∈ E, g < e.lo ∨ e.hi ≤ g) : OutE w3 w4 X rv E := by
  have hX := h.size
  have hs := h.below.size
  have nX : og ≠ some X := fun q => by have := (g1 X q).1; omega
  refine ⟨h.below.trans ⟨hos, htp, hout, hz, fun b hb => hk b (by omega) (fun q => by have := (g1 b q).1; omega)⟩, h.lo, ?_, ?_, ?_, ?_, h.apart, h.far⟩
  · rw [World.frozen?_of_block (w := wr) (a := ⟨X, 0, none⟩) (hk X hX nX)]; exact h.frz
  · rw [World.cell?_of_block (w := wr) (a := ⟨X, 0, none⟩) (hk X hX nX)]; exact h.cell
  · refine h.own.kept (row := og) ⟨hos, htp, hout, hz, fun j hj hne => hk j hj (fun q => hne q.symm)⟩ ?_
    cases hr : rv.ownBlock with
    | none => exact .inl rfl
    | some g => exact .inr fun q => (g1 g q.symm).2.1 hr
  · intro e he
    obtain ⟨r, h2, h3⟩ := h.row e he
    exact ⟨r.moveR fun b b1 b2 => hk b (by omega) (fun q => by have := (g1 b q).2.2 e he; omega), h2, Nat.le_trans h3 hz⟩
/-- Those that are gone lie apart from what is gathered. -/
def NG (X : Nat) (gv rv : Value) (E : List Ent) : Prop := ∀ g, gv.ownBlock = some g → X < g ∧ rv.ownBlock ≠ some g ∧ ∀ e ∈ E, g < e.lo ∨ e.hi ≤ g

set_option linter.unusedVariables false in
set_option maxRecDepth 100000 in
set_option maxHeartbeats 8000000 in
theorem sagd_1 (D : List Ls) (by_ : Int) (lo hi : Nat) (v : Value) (w : World) (hr : DRow w lo hi v D) (hh : hi ≤ w.heap.size) (hd : dtot D ≤ 1048576) (hv : dokB D = false) :
    Calls Try.prog 33 #[.agg #[v], .int .i64 by_] w fun e w' => SAgePost D by_ w e w' := by
  have HV := Lib.hid hv
  have hc : agok D by_ = false := by unfold agok; rw [hv]; rfl
  have HI : Hid (agD D by_ = D) := Lib.hid (if_neg (by rw [hc]; decide))
  have HG : Hid (agG D by_ = []) := Lib.hid (if_neg (by rw [hc]; decide))
  have R0 := Lib.hid hr
  have hr' := hr
  obtain ⟨a, c, us, xs, bs, ev, X⟩ := hr'
  subst ev
  obtain ⟨n, hn⟩ : ∃ n, n = D.length := ⟨_, rfl⟩
  rw [← hn] at R0 ⊢
  clear X hr hn hv hc
  go_enter Try.func33, Try.ntmps33
  go_wp2_with fail
  obtain ⟨q0, hq0⟩ : ∃ q, q = (w.alloc (.cells #[.slice a n c] 26)).alloc (.cells #[.slice none 0 0] 26) := ⟨_, rfl⟩
  have I0 : Hid (Ag2 w q0 (.slice a n c)) := Lib.hid (by
    rw [hq0]
    refine ⟨?_, ?_, ?_, ?_, ?_⟩
    all_goals first | (rw [old_box (by simp), new_at (by simp)]; rfl; done) | (rw [new_at (by simp)]; rfl; done) | (rw [new_frz (by simp)]; done) | (simp; done) | go_grown)
  rw [← hq0]
  clear hq0
  have c0_ := I0.out.c0
  have r_ := I0.out.r
  have f_ := I0.out.f
  have size_ := I0.out.size
  have hw0_ : w.heap.size < q0.heap.size := by omega
  have hw1_ : w.heap.size + 1 < q0.heap.size := by omega
  go_wp2_with fail
  go_at_call 14
  refine (sdbok_any D lo hi _ _ (R0.out.below I0.out.below hh) (by have := I0.out.size; omega)).mono ?_
  rw [HV.out]
  rintro e w1 ⟨rfl, hb1⟩
  have I1 : Hid (Ag2 w w1 (.slice a n c)) := Lib.hid (I0.out.next (hb1.mono (I0.out.size)))
  clear c0_ r_ f_ size_ hw0_ hw1_
  have c0_ := I1.out.c0
  have r_ := I1.out.r
  have f_ := I1.out.f
  have size_ := I1.out.size
  have hw0_ : w.heap.size < w1.heap.size := by omega
  have hw1_ : w.heap.size + 1 < w1.heap.size := by omega
  go_wp2_with fail
  go_at_call 69
  refine (sdcopy_any D lo hi _ _ (R0.out.below I1.out.below hh) (by have := I1.out.size; omega) hd).mono ?_
  rintro e w2 ⟨rv, rfl, hrow, hb2⟩
  have I2 : Hid (Ag2 w w2 (.slice a n c)) := Lib.hid (I1.out.next (hb2.mono (I1.out.size)))
  clear c0_ r_ f_ size_ hw0_ hw1_
  have HW := Lib.hid hrow
  obtain ⟨ra, rc, rfl⟩ := hrow.slice
  clear hrow
  obtain ⟨n9, hn9⟩ : ∃ n, n = D.length := ⟨_, rfl⟩
  rw [← hn9] at HW ⊢
  clear hn9
  have c0_ := I2.out.c0
  have r_ := I2.out.r
  have f_ := I2.out.f
  have size_ := I2.out.size
  have hw0_ : w.heap.size < w2.heap.size := by omega
  have hw1_ : w.heap.size + 1 < w2.heap.size := by omega
  go_wp2_with fail
  refine bodyPost_ret (v := .tuple #[.agg #[.slice ra n9 rc], .slice none 0 0]) (by simp [results, Try.results33, go_sem, *]) rfl (sageP (.slice ra n9 rc) (.slice none 0 0) rfl ?_ ?_ ?_)
  · rw [HI.out]
    exact ((HW.out.setCell (.inl (by have := I1.out.size; simp <;> omega)) _).wide (by have := I1.out.size; omega) (by simp [World.setCell]))
  · rw [HG.out]; exact ⟨rfl, .inl ⟨rfl, none, 0, rfl⟩⟩
  · exact (I2.out.below.setCell (by simp <;> omega) _)

set_option linter.unusedVariables false in
set_option maxRecDepth 100000 in
set_option maxHeartbeats 8000000 in
theorem sagd_2 (D : List Ls) (by_ : Int) (lo hi : Nat) (v : Value) (w : World) (hr : DRow w lo hi v D) (hh : hi ≤ w.heap.size) (hd : dtot D ≤ 1048576) (hv : dokB D = true) (hin : inB by_ 0 60 = false) :
    Calls Try.prog 33 #[.agg #[v], .int .i64 by_] w fun e w' => SAgePost D by_ w e w' := by
  have HV := Lib.hid hv
  have HIN := Lib.hid hin
  have hc : agok D by_ = false := by unfold agok; rw [hv, hin]; rfl
  have HI : Hid (agD D by_ = D) := Lib.hid (if_neg (by rw [hc]; decide))
  have HG : Hid (agG D by_ = []) := Lib.hid (if_neg (by rw [hc]; decide))
  have R0 := Lib.hid hr
  have hr' := hr
  obtain ⟨a, c, us, xs, bs, ev, X⟩ := hr'
  subst ev
  obtain ⟨n, hn⟩ : ∃ n, n = D.length := ⟨_, rfl⟩
  rw [← hn] at R0 ⊢
  clear X hr hn hv hc hin
  go_enter Try.func33, Try.ntmps33
  go_wp2_with fail
  obtain ⟨q0, hq0⟩ : ∃ q, q = (w.alloc (.cells #[.slice a n c] 26)).alloc (.cells #[.slice none 0 0] 26) := ⟨_, rfl⟩
  have I0 : Hid (Ag2 w q0 (.slice a n c)) := Lib.hid (by
    rw [hq0]
    refine ⟨?_, ?_, ?_, ?_, ?_⟩
    all_goals first | (rw [old_box (by simp), new_at (by simp)]; rfl; done) | (rw [new_at (by simp)]; rfl; done) | (rw [new_frz (by simp)]; done) | (simp; done) | go_grown)
  rw [← hq0]
  clear hq0
  have c0_ := I0.out.c0
  have r_ := I0.out.r
  have f_ := I0.out.f
  have size_ := I0.out.size
  have hw0_ : w.heap.size < q0.heap.size := by omega
  have hw1_ : w.heap.size + 1 < q0.heap.size := by omega
  go_wp2_with fail
  go_at_call 14
  refine (sdbok_any D lo hi _ _ (R0.out.below I0.out.below hh) (by have := I0.out.size; omega)).mono ?_
  rw [HV.out]
  rintro e w1 ⟨rfl, hb1⟩
  have I1 : Hid (Ag2 w w1 (.slice a n c)) := Lib.hid (I0.out.next (hb1.mono (I0.out.size)))
  clear c0_ r_ f_ size_ hw0_ hw1_
  have c0_ := I1.out.c0
  have r_ := I1.out.r
  have f_ := I1.out.f
  have size_ := I1.out.size
  have hw0_ : w.heap.size < w1.heap.size := by omega
  have hw1_ : w.heap.size + 1 < w1.heap.size := by omega
  go_wp2_with fail
  go_at_call 74
  refine (in_any _ _ _ _).mono ?_
  rw [HIN.out]
  rintro e w' ⟨rfl, rfl⟩
  clear c0_ r_ f_ size_ hw0_ hw1_
  have c0_ := I1.out.c0
  have r_ := I1.out.r
  have f_ := I1.out.f
  have size_ := I1.out.size
  have hw0_ : w.heap.size < w1.heap.size := by omega
  have hw1_ : w.heap.size + 1 < w1.heap.size := by omega
  go_wp2_with fail
  go_at_call 69
  refine (sdcopy_any D lo hi _ _ (R0.out.below I1.out.below hh) (by have := I1.out.size; omega) hd).mono ?_
  rintro e w2 ⟨rv, rfl, hrow, hb2⟩
  have I2 : Hid (Ag2 w w2 (.slice a n c)) := Lib.hid (I1.out.next (hb2.mono (I1.out.size)))
  clear c0_ r_ f_ size_ hw0_ hw1_
  have HW := Lib.hid hrow
  obtain ⟨ra, rc, rfl⟩ := hrow.slice
  clear hrow
  obtain ⟨n9, hn9⟩ : ∃ n, n = D.length := ⟨_, rfl⟩
  rw [← hn9] at HW ⊢
  clear hn9
  have c0_ := I2.out.c0
  have r_ := I2.out.r
  have f_ := I2.out.f
  have size_ := I2.out.size
  have hw0_ : w.heap.size < w2.heap.size := by omega
  have hw1_ : w.heap.size + 1 < w2.heap.size := by omega
  go_wp2_with fail
  refine bodyPost_ret (v := .tuple #[.agg #[.slice ra n9 rc], .slice none 0 0]) (by simp [results, Try.results33, go_sem, *]) rfl (sageP (.slice ra n9 rc) (.slice none 0 0) rfl ?_ ?_ ?_)
  · rw [HI.out]
    exact ((HW.out.setCell (.inl (by have := I1.out.size; simp <;> omega)) _).wide (by have := I1.out.size; omega) (by simp [World.setCell]))
  · rw [HG.out]; exact ⟨rfl, .inl ⟨rfl, none, 0, rfl⟩⟩
  · exact (I2.out.below.setCell (by simp <;> omega) _)

set_option linter.unusedVariables false in
set_option maxRecDepth 100000 in
set_option maxHeartbeats 8000000 in
theorem sagd_3 (D : List Ls) (by_ : Int) (lo hi : Nat) (v : Value) (w : World) (hr : DRow w lo hi v D) (hh : hi ≤ w.heap.size) (hv : dokB D = true) (hin : inB by_ 0 60 = true) :
    Calls Try.prog 33 #[.agg #[v], .int .i64 by_] w fun e w' => SAgePost D by_ w e w' := by
  have HV := Lib.hid hv
  have HIN := Lib.hid hin
  have hc : agok D by_ = true := by unfold agok; rw [hv, hin]; rfl
  have HI : Hid (agD D by_ = kept by_ D) := Lib.hid (if_pos hc)
  have HG : Hid (agG D by_ = gon by_ D) := Lib.hid (if_pos hc)
  have hn10 := dokB_len hv
  obtain ⟨i3, hi0, hz0, hz1, hz2⟩ := info_parts Try.info3
  have I3 := Lib.hid (And.intro hi0 (And.intro hz0 (And.intro hz1 hz2)))
  clear hi0 hz0 hz1 hz2
  obtain ⟨iL, hi0, hz0, hz1, hz2⟩ := info_parts Try.info33
  have IL := Lib.hid (And.intro hi0 (And.intro hz0 (And.intro hz1 hz2)))
  clear hi0 hz0 hz1 hz2
  have R0 := Lib.hid hr
  have hr' := hr
  obtain ⟨a, c, us, xs, bs, ev, X⟩ := hr'
  subst ev
  obtain ⟨n, hn⟩ : ∃ n, n = D.length := ⟨_, rfl⟩
  rw [← hn] at R0 ⊢
  have HN := Lib.hid hn
  have HX := Lib.hid X
  clear X hr hn hv hc hin
  rw [← HN.out] at hn10
  go_enter Try.func33, Try.ntmps33
  go_wp2_with fail
  obtain ⟨q0, hq0⟩ : ∃ q, q = (w.alloc (.cells #[.slice a n c] 26)).alloc (.cells #[.slice none 0 0] 26) := ⟨_, rfl⟩
  have I0 : Hid (Ag2 w q0 (.slice a n c)) := Lib.hid (by
    rw [hq0]
    refine ⟨?_, ?_, ?_, ?_, ?_⟩
    all_goals first | (rw [old_box (by simp), new_at (by simp)]; rfl; done) | (rw [new_at (by simp)]; rfl; done) | (rw [new_frz (by simp)]; done) | (simp; done) | go_grown)
  rw [← hq0]
  clear hq0
  have c0_ := I0.out.c0
  have r_ := I0.out.r
  have f_ := I0.out.f
  have size_ := I0.out.size
  have hw0_ : w.heap.size < q0.heap.size := by omega
  have hw1_ : w.heap.size + 1 < q0.heap.size := by omega
  go_wp2_with fail
  go_at_call 14
  refine (sdbok_any D lo hi _ _ (R0.out.below I0.out.below hh) (by have := I0.out.size; omega)).mono ?_
  rw [HV.out]
  rintro e w1 ⟨rfl, hb1⟩
  have I1 : Hid (Ag2 w w1 (.slice a n c)) := Lib.hid (I0.out.next (hb1.mono (I0.out.size)))
  clear c0_ r_ f_ size_ hw0_ hw1_
  have c0_ := I1.out.c0
  have r_ := I1.out.r
  have f_ := I1.out.f
  have size_ := I1.out.size
  have hw0_ : w.heap.size < w1.heap.size := by omega
  have hw1_ : w.heap.size + 1 < w1.heap.size := by omega
  go_wp2_with fail
  go_at_call 74
  refine (in_any _ _ _ _).mono ?_
  rw [HIN.out]
  rintro e w' ⟨rfl, rfl⟩
  have hqb : Below w1.heap.size w1 (w1.alloc (.cells #[.slice none 0 0] 26)) := by go_grown
  have HOU0 : Hid (OutE ((w1.alloc (.cells #[.slice none 0 0] 26)).alloc (.cells #[] 3)) ((w1.alloc (.cells #[.slice none 0 0] 26)).alloc (.cells #[] 3)) w1.heap.size (.slice none 0 0) []) := Lib.hid (OutE.start (by simp; omega) (by rw [old_frz (by simp), new_frz (by simp)]) (by rw [old_box (by simp), new_at (by simp)]; rfl))
  have HOG0 : Hid (Own 3 1 w1 ((w1.alloc (.cells #[.slice none 0 0] 26)).alloc (.cells #[] 3)) (.slice (some ⟨w1.heap.size + 1, 0, none⟩) 0 0) 0 (ints [])) := Lib.hid (by
    have h := (own_lit0 (w1.alloc (.cells #[.slice none 0 0] 26))).base hqb
    rw [show (w1.alloc (.cells #[.slice none 0 0] 26)).heap.size = w1.heap.size + 1 by simp] at h
    exact h)
  have HNG0 : Hid (NG w1.heap.size (.slice (some ⟨w1.heap.size + 1, 0, none⟩) 0 0) (.slice none 0 0) []) := Lib.hid (fun g hg => by
    simp [Value.ownBlock] at hg
    subst hg
    exact ⟨by omega, by simp [Value.ownBlock], fun e he => by simp at he⟩)
  have HR0 : Hid (Ag2 w ((w1.alloc (.cells #[.slice none 0 0] 26)).alloc (.cells #[] 3)) (.slice a n c)) := Lib.hid (I1.out.next (Below.trans ((Below.refl _ _).alloc I1.out.size _) ((Below.refl _ _).alloc (by have := I1.out.size; simp; omega) _)))
  have HQS : Hid (w.heap.size + 2 ≤ w1.heap.size) := Lib.hid I1.out.size
  clear hqb
  obtain ⟨q, hq⟩ : ∃ q, q = (w1.alloc (.cells #[.slice none 0 0] 26)).alloc (.cells #[] 3) := ⟨_, rfl⟩
  go_wp2
  rw [← hq] at HR0 HOU0 HOG0
  try rw [← hq]
  clear c0_ r_ f_ size_ hw0_ hw1_ hq
  go_loopw [7, 8] (fun lv i wr => ∃ (k : Nat) (gv rv : Value) (E : List Ent), k ≤ n ∧ i = .int .i64 (k : Int) ∧ lv = gv ∧ Hid (Ag2 w wr (.slice a n c)) ∧ Hid (OutE q wr w1.heap.size rv E) ∧ Hid (E.map (·.l) = kept by_ (D.take k)) ∧ Hid (Own 3 1 w1 wr gv (gon by_ (D.take k)).length (ints (gon by_ (D.take k)))) ∧ Hid (NG w1.heap.size gv rv E)) (fun _ i _ => n - (intOf i).toNat)
  case atStart => exact ⟨0, _, _, [], Nat.zero_le _, rfl, rfl, HR0, HOU0, Lib.hid rfl, HOG0, HNG0⟩
  case round =>
    clear HOU0 HOG0 HNG0 I1
    obtain ⟨k, gv, rv, E, hk, rfl, rfl, hR, HOU, HE, HO, HNG⟩ := hrel
    obtain ⟨xa, xc, erv⟩ := HO.out.slice
    subst erv
    obtain ⟨zn, hzn⟩ : ∃ q, q = (gon by_ (D.take k)).length := ⟨_, rfl⟩
    rw [← hzn] at HO HNG ⊢
    have hzl : zn ≤ n := by rw [hzn]; refine Nat.le_trans (gon_len _ _) ?_; rw [List.length_take]; omega
    have HZN := Lib.hid hzn
    clear hzn
    obtain ⟨ya, yc, erv⟩ := own_slice HOU.out.own
    subst erv
    obtain ⟨yn, hyn⟩ : ∃ q, q = E.length := ⟨_, rfl⟩
    have hyl : yn ≤ n := by
      have h1 := congrArg List.length HE.out
      rw [List.length_map] at h1
      have h2 := kept_len by_ (D.take k)
      rw [List.length_take] at h2
      omega
    rw [← hyn] at HOU HNG
    have HYN := Lib.hid hyn
    clear hyn
    have hX := HOU.out.size
    by_cases hlt : k < n
    · skip
      obtain ⟨p, hp⟩ : ∃ p, D[k]? = some p := ⟨_, List.getElem?_eq_getElem (by have := HN.out; omega)⟩
      obtain ⟨G, rfl, g1, g2, _, g4, _⟩ := HX.out.outer (by have := HN.out; omega)
      have hc := (g4 k p hp).below hR.out.below (by omega)
      obtain ⟨i1, i2, i3'⟩ := HX.out.inner k p hp
      have RP := Lib.hid (i1.below hR.out.below (by omega))
      obtain ⟨x1, y1, x2, y2, e1, e2⟩ := i1.slice
      rw [e1, e2] at hc RP
      obtain ⟨d1, d2, d3, d4, d5⟩ := hc
      have hk0 : (0 : Int) ≤ (k : Int) := by omega
      have hk1 : (k : Int) < (n : Int) := by omega
      have hbz := hR.out.below.size
      have hGw : G < wr.heap.size := by omega
      obtain ⟨H0, hH0⟩ : ∃ q, q = (bs k).1 := ⟨_, rfl⟩
      obtain ⟨H1, hH1⟩ : ∃ q, q = (bs k).2 := ⟨_, rfl⟩
      have z1 : H1 ≤ wr.heap.size := by omega
      rw [← hH0, ← hH1] at RP
      have Hp := Lib.hid hp
      have HPO := Lib.hid (dokB_get HV.out hp).1
      have hsz := hR.out.size
      have cc0 := hR.out.c0
      have hsz0 : w.heap.size < wr.heap.size := by omega
      clear i1 i2 i3' e1 e2 hH0 hH1 hp g4
      have hbd := Ls.ok_bd HPO.out
      have hl1 : p.K.length ≤ 1048576 := by omega
      have hl2 : p.T.length ≤ 1048576 := by omega
      obtain ⟨z, hz⟩ : ∃ z, z = (ageL by_ p).g := ⟨_, rfl⟩
      have HAV : Hid (agV p.o p.s p.g by_ p.K p.T = z) := Lib.hid (by rw [hz]; exact agV_ageL HPO.out HIN.out)
      have HBB : Hid (agB p.o p.s p.g by_ p.K p.T = true) := Lib.hid (by unfold agB; rw [show lokB p.o p.s p.g p.K p.T = true from HPO.out, HIN.out]; rfl)
      have HAL : Hid (ageL by_ p = ⟨p.o, p.s, z, p.K, p.T⟩) := Lib.hid (by rw [hz]; rfl)
      clear hbd hz
      go_wp2_with fail
      go_at_call 75
      refine (sage_any p.o p.s p.g by_ H0 H1 _ _ _ _ p.K p.T _ rfl rfl RP.out z1 hl1 hl2).mono ?_
      rw [HAV.out, HBB.out]
      rintro e w3 ⟨ru, rv3, rfl, hr3, hb3⟩
      obtain ⟨ra, rc, sa, sc, rfl, rfl⟩ := hr3.slice
      obtain ⟨wb, hwb⟩ : ∃ q, q = w3.alloc (.cells #[.int .i64 p.o, .int .i64 p.s, .int .i64 z, .slice ra p.K.length rc, .slice sa p.T.length sc] 33) := ⟨_, rfl⟩
      have k0 : wb.cell? ⟨w3.heap.size, 0, none⟩ = some (.int .i64 p.o) := by rw [hwb, new_at rfl]; rfl
      have k1 : wb.cell? ⟨w3.heap.size, 1, none⟩ = some (.int .i64 p.s) := by rw [hwb, new_at rfl]; rfl
      have k2 : wb.cell? ⟨w3.heap.size, 2, none⟩ = some (.int .i64 z) := by rw [hwb, new_at rfl]; rfl
      have k3 : wb.cell? ⟨w3.heap.size, 3, none⟩ = some (.slice ra p.K.length rc) := by rw [hwb, new_at rfl]; rfl
      have k4 : wb.cell? ⟨w3.heap.size, 4, none⟩ = some (.slice sa p.T.length sc) := by rw [hwb, new_at rfl]; rfl
      have hz3 := hb3.size
      have kz : w3.heap.size < wb.heap.size := by rw [hwb]; simp
      have h3b : Below w3.heap.size w3 wb := by rw [hwb]; go_grown
      have hbb : Below wr.heap.size wr wb := hb3.trans (h3b.mono hz3)
      have HBb := Lib.hid hbb
      have HR3 : Hid (LRow wb wr.heap.size w3.heap.size (.slice ra p.K.length rc) (.slice sa p.T.length sc) p.K.length p.T.length (flat2 p.K) (flat p.T)) := Lib.hid (hr3.below h3b (Nat.le_refl _))
      have HOUb : Hid (OutE q wb w1.heap.size (.slice ya yn yc) E) := Lib.hid (HOU.out.grow hbb)
      have HOo := Lib.hid (HO.out.grow hbb)
      have HRb := Lib.hid (hR.out.next (hbb.mono hsz))
      have hXb := HOUb.out.size
      have cX := HOUb.out.cell
      have hq2 := HQS.out
      cases hx : exl (ageL by_ p)
      · have hzb : (z == 60) = false := by have h := hx; rw [HAL.out] at h; exact h
        have HKN := Lib.hid (kept_yes (by_ := by_) Hp.out hx)
        have HGN := Lib.hid (gon_no (by_ := by_) Hp.out hx)
        have HWo : Hid (wb.ownsRow (w1.heap.size + 1) 33 5 (.slice ya yn yc) yn (ecells E)) := Lib.hid (by have h := HOUb.out.own; rw [← HYN.out] at h; exact h)
        have hzq : ¬ z = 60 := by simpa using hzb
        clear hx hr3 hb3 h3b hbb RP hR cc0 d1 d2 d3 d4 d5
        go_upto_region 9 with (fail)
        rw [← hwb]
        clear hwb
        go_wp2_with (at_builtin; refine wpList_append_lies _ rfl _ _ 24 rfl (w1.heap.size + 1) 33 iL (.agg #[.int .i64 0, .int .i64 0, .int .i64 0, .slice none 0 0, .slice none 0 0]) 5 72 Try.underlying24 IL.out.1 IL.out.2.1 IL.out.2.2.1 IL.out.2.2.2 rfl (by decide) (.slice ya yn yc) yn (ecells E) rfl (HWo.out.alloc _) ⟨wb.heap.size, 0, none⟩ 1 1 [.int .i64 p.o, .int .i64 p.s, .int .i64 z, .slice ra p.K.length rc, .slice sa p.T.length sc] rfl rfl (fun j u hj => cell_five_new wb _ _ _ _ _ 33 j u hj) (ecs_one _ _ _ _ _ _ _ _ _) (by decide) (by unfold maxLen; omega) (by omega) (by have := HOUb.out.size; simp; omega) _ rfl ?_; intro g4 cap4 w4 hown4 hgrow4 hat4 hlt4; have HF := HOUb.out.app (e := ⟨⟨p.o, p.s, z, p.K, p.T⟩, .slice ra p.K.length rc, .slice sa p.T.length sc, wr.heap.size, w3.heap.size⟩) HR3.out hX (Nat.le_of_lt kz) (fun e' he' => (HOU.out.row e' he').2.2) (fun k hk => (HOU.out.lt hk).2) hgrow4 (by rw [HYN.out]) hown4 (hat4.imp id (fun h => h.trans (by simp))); obtain ⟨⟨u4, c4⟩, f4, l4, l5, HO5⟩ := HF)
        have HOn : Hid (Own 3 1 w1 (w4.setCell ⟨w1.heap.size, 0, none⟩ (.slice (some ⟨g4, 0, none⟩) (yn + 1) cap4)) (.slice xa zn xc) (gon by_ (D.take (k + 1))).length (ints (gon by_ (D.take (k + 1))))) := Lib.hid (by
          rw [HGN.out, ← HZN.out]
          refine ((HOo.out.alloc _).rowed hgrow4 (fun j hj => Nat.le_of_lt (HOUb.out.lt hj).1) ?_).rowed (row := some w1.heap.size) ⟨rfl, rfl, rfl, by simp, fun j _ hj => Below.heap_setCell _ _ _ _ (fun e => hj (by rw [e]))⟩ (fun j hj => by have := Option.some.inj hj; omega) ?_
          · cases hgv : (Value.slice xa zn xc).ownBlock with
            | none => exact .inl rfl
            | some g => exact .inr fun q => (HNG.out g hgv).2.1 q.symm
          · cases hgv : (Value.slice xa zn xc).ownBlock with
            | none => exact .inl rfl
            | some g => exact .inr fun q => by have h1 := Option.some.inj q; have h2 := (HNG.out g hgv).1; omega)
        have HN9 : Hid (NG w1.heap.size (.slice xa zn xc) (.slice (some ⟨g4, 0, none⟩) (yn + 1) cap4) (E ++ [⟨⟨p.o, p.s, z, p.K, p.T⟩, .slice ra p.K.length rc, .slice sa p.T.length sc, wr.heap.size, w3.heap.size⟩])) := Lib.hid (fun g hg => by
          obtain ⟨h1, h2, h3⟩ := HNG.out g hg
          have h4 := (HO.out.row.lt g hg).2
          refine ⟨h1, fun q => ?_, fun e he => ?_⟩
          · have hgg : g4 = g := by simpa [Value.ownBlock] using q
            subst hgg
            rcases hat4 with h | h
            · exact h2 h
            · simp at h; omega
          · rcases List.mem_append.1 he with he | he
            · exact h3 e he
            · obtain rfl := List.mem_singleton.1 he
              exact .inl h4)
        have HE9 : Hid ((E ++ [(⟨⟨p.o, p.s, z, p.K, p.T⟩, .slice ra p.K.length rc, .slice sa p.T.length sc, wr.heap.size, w3.heap.size⟩ : Ent)]).map (·.l) = kept by_ (D.take (k + 1))) := Lib.hid (by rw [List.map_append, HE.out, HKN.out, HAL.out]; rfl)
        have HO9 : Hid (OutE q (w4.setCell ⟨w1.heap.size, 0, none⟩ (.slice (some ⟨g4, 0, none⟩) (yn + 1) cap4)) w1.heap.size (.slice (some ⟨g4, 0, none⟩) (yn + 1) cap4) (E ++ [⟨⟨p.o, p.s, z, p.K, p.T⟩, .slice ra p.K.length rc, .slice sa p.T.length sc, wr.heap.size, w3.heap.size⟩])) := Lib.hid HO5
        have HR9 := Lib.hid (HR0.out.next (HO5.below.mono HQS.out))
        clear HO5 hown4 hgrow4 hat4 hlt4 c4 f4 l4 l5
        go_wp2_with fail
        go_roundw
        case rel => exact ⟨k + 1, _, _, _, by omega, by go_num, rfl, HR9, HO9, HE9, HOn, HN9⟩
        case measure => simp [intOf]; omega
      · have hzb : (z == 60) = true := by have h := hx; rw [HAL.out] at h; exact h
        have HKN := Lib.hid (kept_no (by_ := by_) Hp.out hx)
        have HGN := Lib.hid (gon_yes (by_ := by_) Hp.out hx)
        have hzq : z = 60 := by simpa using hzb
        have HZQ := Lib.hid hzq
        clear hzq hx hr3 hb3 h3b hbb RP hR cc0 d1 d2 d3 d4 d5
        go_upto_region 9 with (fail)
        rw [← hwb]
        clear hwb
        go_wp2_with (at_builtin; refine wpList_append_lies _ rfl _ _ 59 rfl w1.heap.size 3 i3 (.int .i64 0) 1 8 Try.underlying59 I3.out.1 I3.out.2.1 I3.out.2.2.1 I3.out.2.2.2 rfl (by decide) (.slice xa zn xc) zn (ints (gon by_ (D.take k))) rfl (HOo.out.row.alloc _) ⟨wb.heap.size, 0, none⟩ 1 1 [.int .i64 p.o] rfl rfl (fun j u hj => cell_one_new1 wb _ 3 j u hj) (int_one1 _) (by decide) (by unfold maxLen; omega) (by omega) (by have := HOo.out.size; simp; omega) _ rfl ?_; intro g4 cap4 w4 hown4 hgrow4 hat4 hlt4)
        have HOn : Hid (Own 3 1 w1 w4 (.slice (some ⟨g4, 0, none⟩) (zn + 1) cap4) (gon by_ (D.take (k + 1))).length (ints (gon by_ (D.take (k + 1))))) := Lib.hid (by
          have hg : wb.grownBy w4 (Value.slice xa zn xc).ownBlock := ⟨hgrow4.os, hgrow4.tape, hgrow4.output, by have := hgrow4.size; simp at this; omega, fun j hj hne => by rw [hgrow4.block j (by simp; omega) hne]; exact Below.heap_alloc _ _ j hj⟩
          have h := HOo.out.app hg hown4
          rw [HGN.out, List.length_append, ← HZN.out]
          have e : ints (gon by_ (D.take k)) ++ [.int .i64 p.o] = ints (gon by_ (D.take k) ++ [p.o]) := by simp [ints]
          rw [← e]
          exact h)
        have hsz4 : wb.heap.size ≤ w4.heap.size := by have := hgrow4.size; simp at this; omega
        have HO9 : Hid (OutE q w4 w1.heap.size (.slice ya yn yc) E) := Lib.hid (HOUb.out.but (og := (Value.slice xa zn xc).ownBlock) hgrow4.os hgrow4.tape hgrow4.output hsz4 (fun b hb hne => by rw [hgrow4.block b (by simp; omega) (fun q => hne q.symm)]; exact Below.heap_alloc _ _ b hb) HNG.out)
        have HN9 : Hid (NG w1.heap.size (.slice (some ⟨g4, 0, none⟩) (zn + 1) cap4) (.slice ya yn yc) E) := Lib.hid (fun g hg => by
          have hgg : g4 = g := by simpa [Value.ownBlock] using hg
          subst hgg
          rcases hat4 with h | h
          · exact HNG.out g4 h
          · simp at h
            refine ⟨by omega, fun q => ?_, fun e he => ?_⟩
            · have := (HOUb.out.lt q).2; omega
            · have := (HOUb.out.row e he).2.2; exact .inr (by omega))
        have HE9 : Hid (E.map (·.l) = kept by_ (D.take (k + 1))) := Lib.hid (by rw [HKN.out]; exact HE.out)
        have HR9 := Lib.hid (HR0.out.next (HO9.out.below.mono HQS.out))
        clear hown4 hgrow4 hat4 hlt4 hsz4
        go_wp2_with fail
        go_roundw
        case rel => exact ⟨k + 1, _, _, _, by omega, by go_num, rfl, HR9, HO9, HE9, HOn, HN9⟩
        case measure => simp [intOf]; omega
    · have hge : ¬ ((k : Int) < (n : Int)) := by omega
      have HEE : Hid (E.map (·.l) = agD D by_) := Lib.hid (by rw [HE.out, HI.out, List.take_of_length_le (by have := HN.out; omega)])
      have HGE : Hid (gon by_ (D.take k) = agG D by_) := Lib.hid (by rw [HG.out, List.take_of_length_le (by have := HN.out; omega)])
      have HDR : Hid (DRow wr (w1.heap.size + 1) wr.heap.size (.slice ya yn yc) (agD D by_)) := Lib.hid (by rw [← HEE.out]; exact HOU.out.row_ (by have := HYN.out; omega))
      have HGR := Lib.hid (row_of_own HO.out.row (by omega))
      have cX := HOU.out.cell
      have c0_ := hR.out.c0
      have r_ := hR.out.r
      have f_ := hR.out.f
      have hq2 := HQS.out
      have hw0_ : w.heap.size < wr.heap.size := by omega
      have hw1_ : w.heap.size + 1 < wr.heap.size := by omega
      go_wp2_with fail
      refine bodyPost_ret (v := .tuple #[.agg #[.slice ya yn yc], .slice xa zn xc]) (by simp [results, Try.results33, go_sem, *]) rfl (sageP (.slice ya yn yc) (.slice xa zn xc) rfl ?_ ?_ ?_)
      · exact ((HDR.out.setCell (.inl (by simp <;> omega)) _).wide (by omega) (by simp [World.setCell]))
      · rw [← HGE.out, ← HZN.out]
        exact ((HGR.out.setCell (.inl (by simp <;> omega)) _).wide (by omega) (by simp [World.setCell]))
      · exact (hR.out.below.setCell (by simp <;> omega) _)

end Go.Proofs.Ytfpafjdakipccaa
