/- AgeDb of the program. -/
import Derived.Test.YtfpafjdakipccaaKg
import Derived.Test.YtfpafjdakipccaaCq
import Derived.Test.YtfpafjdakipccaaOo
import Derived.Test.YtfpafjdakipccaaGi
namespace Go.Proofs.Ytfpafjdakipccaa
open Go.RowKit


theorem Own.only {E : TypeId} {k m : Nat} {w wr w' : World} {v : Value} {n : Nat} {X : List Value} (h : Own E k w wr v n X) (ho : Only m wr w') (hm : w.heap.size ≤ m) (hne : v.ownBlock ≠ some m) : Own E k w w' v n X :=
  ⟨h.below.trans (ho.below hm), h.row.kept (row := some m) ⟨ho.1, ho.2.1, ho.2.2.1, by rw [ho.2.2.2.1]; exact Nat.le_refl _, fun j _ hj => ho.2.2.2.2 j (fun e => hj (by rw [e]))⟩ (.inr hne)⟩
/-- What AgeDb of the program hands back: those that are gone lie ahead of the others. -/
def AgePost (D : List Ls) (by_ : Int) (w : World) (e : Ending) (w' : World) : Prop := ∃ (rv gv : Value) (mid : Nat), e = .returned (.tuple #[.agg #[rv], gv]) ∧ DRow w' mid w'.heap.size rv (agD D by_) ∧ Row 1 w' w.heap.size mid gv (agG D by_).length (agG D by_) ∧ (w.heap.size ≤ mid ∧ mid ≤ w'.heap.size) ∧ Below w.heap.size w w'
theorem ageP {D : List Ls} {by_ : Int} {w w' : World} {e : Ending} (rv gv : Value) (mid : Nat) (h1 : e = .returned (.tuple #[.agg #[rv], gv])) (h2 : DRow w' mid w'.heap.size rv (agD D by_)) (h3 : Row 1 w' w.heap.size mid gv (agG D by_).length (agG D by_)) (h4 : w.heap.size ≤ mid ∧ mid ≤ w'.heap.size) (h5 : Below w.heap.size w w') : AgePost D by_ w e w' := ⟨rv, gv, mid, h1, h2, h3, h4, h5⟩

set_option linter.unusedVariables false in
set_option maxRecDepth 100000 in
set_option maxHeartbeats 8000000 in
theorem iagd_1 (D : List Ls) (by_ : Int) (lo hi : Nat) (v : Value) (w : World) (hr : DRow w lo hi v D) (hh : hi ≤ w.heap.size) (hd : dtot D ≤ 1048576) (hv : dokB D = false) :
    Calls Try.prog 34 #[.agg #[v], .int .i64 by_] w fun e w' => AgePost D by_ w e w' := by
  have HV := Lib.hid hv
  have hc : agok D by_ = false := by unfold agok; rw [hv]; rfl
  have HI : Hid (agD D by_ = D) := Lib.hid (if_neg (by rw [hc]; decide))
  have HG : Hid (agG D by_ = []) := Lib.hid (if_neg (by rw [hc]; decide))
  have R0 := Lib.hid hr
  have hr' := hr
  obtain ⟨a, c, us, xs, bs, ev, X⟩ := hr'
  subst ev
  obtain ⟨n, hn⟩ : ∃ n, n = D.length := ⟨_, rfl⟩
  rw [← hn] at R0 ⊢
  clear X hr hn hv hc
  go_enter Try.func34, Try.ntmps34
  go_wp2_with fail
  obtain ⟨q0, hq0⟩ : ∃ q, q = (w.alloc (.cells #[.slice a n c] 26)).alloc (.cells #[.slice none 0 0] 26) := ⟨_, rfl⟩
  have I0 : Hid (Ag2 w q0 (.slice a n c)) := Lib.hid (by
    rw [hq0]
    refine ⟨?_, ?_, ?_, ?_, ?_⟩
    all_goals first | (rw [old_box (by simp), new_at (by simp)]; rfl; done) | (rw [new_at (by simp)]; rfl; done) | (rw [new_frz (by simp)]; done) | (simp; done) | go_grown)
  rw [← hq0]
  clear hq0
  have c0_ := I0.out.c0
  have r_ := I0.out.r
  have f_ := I0.out.f
  have size_ := I0.out.size
  have hw0_ : w.heap.size < q0.heap.size := by omega
  have hw1_ : w.heap.size + 1 < q0.heap.size := by omega
  go_wp2_with fail
  go_at_call 20
  refine (idbok_any D lo hi _ _ (R0.out.below I0.out.below hh) (by have := I0.out.size; omega)).mono ?_
  rw [HV.out]
  rintro e w1 ⟨rfl, hb1⟩
  have I1 : Hid (Ag2 w w1 (.slice a n c)) := Lib.hid (I0.out.next (hb1.mono (I0.out.size)))
  clear c0_ r_ f_ size_ hw0_ hw1_
  have c0_ := I1.out.c0
  have r_ := I1.out.r
  have f_ := I1.out.f
  have size_ := I1.out.size
  have hw0_ : w.heap.size < w1.heap.size := by omega
  have hw1_ : w.heap.size + 1 < w1.heap.size := by omega
  go_wp2_with fail
  go_at_call 49
  refine (idcopy_any D lo hi _ _ (R0.out.below I1.out.below hh) (by have := I1.out.size; omega) hd).mono ?_
  rintro e w2 ⟨rv, rfl, hrow, hb2⟩
  have I2 : Hid (Ag2 w w2 (.slice a n c)) := Lib.hid (I1.out.next (hb2.mono (I1.out.size)))
  clear c0_ r_ f_ size_ hw0_ hw1_
  have HW := Lib.hid hrow
  obtain ⟨ra, rc, rfl⟩ := hrow.slice
  clear hrow
  obtain ⟨n9, hn9⟩ : ∃ n, n = D.length := ⟨_, rfl⟩
  rw [← hn9] at HW ⊢
  clear hn9
  have c0_ := I2.out.c0
  have r_ := I2.out.r
  have f_ := I2.out.f
  have size_ := I2.out.size
  have hw0_ : w.heap.size < w2.heap.size := by omega
  have hw1_ : w.heap.size + 1 < w2.heap.size := by omega
  go_wp2_with fail
  refine bodyPost_ret (v := .tuple #[.agg #[.slice ra n9 rc], .slice none 0 0]) (by simp [results, Try.results34, go_sem, *]) rfl (ageP (.slice ra n9 rc) (.slice none 0 0) w.heap.size rfl ?_ ?_ ⟨Nat.le_refl _, by have := I2.out.below.size; simpa [World.setCell] using this⟩ ?_)
  · rw [HI.out]
    exact ((HW.out.setCell (.inl (by have := I1.out.size; simp <;> omega)) _).wide (by have := I1.out.size; omega) (by simp [World.setCell]))
  · rw [HG.out]; exact ⟨rfl, .inl ⟨rfl, none, 0, rfl⟩⟩
  · exact (I2.out.below.setCell (by simp <;> omega) _)

set_option linter.unusedVariables false in
set_option maxRecDepth 100000 in
set_option maxHeartbeats 8000000 in
theorem iagd_2 (D : List Ls) (by_ : Int) (lo hi : Nat) (v : Value) (w : World) (hr : DRow w lo hi v D) (hh : hi ≤ w.heap.size) (hd : dtot D ≤ 1048576) (hv : dokB D = true) (h1 : by_ < 0) :
    Calls Try.prog 34 #[.agg #[v], .int .i64 by_] w fun e w' => AgePost D by_ w e w' := by
  have HV := Lib.hid hv
  have hc : agok D by_ = false := by unfold agok; rw [hv, inB_false (by omega)]; rfl
  have HI : Hid (agD D by_ = D) := Lib.hid (if_neg (by rw [hc]; decide))
  have HG : Hid (agG D by_ = []) := Lib.hid (if_neg (by rw [hc]; decide))
  have R0 := Lib.hid hr
  have hr' := hr
  obtain ⟨a, c, us, xs, bs, ev, X⟩ := hr'
  subst ev
  obtain ⟨n, hn⟩ : ∃ n, n = D.length := ⟨_, rfl⟩
  rw [← hn] at R0 ⊢
  clear X hr hn hv hc
  go_enter Try.func34, Try.ntmps34
  go_wp2_with fail
  obtain ⟨q0, hq0⟩ : ∃ q, q = (w.alloc (.cells #[.slice a n c] 26)).alloc (.cells #[.slice none 0 0] 26) := ⟨_, rfl⟩
  have I0 : Hid (Ag2 w q0 (.slice a n c)) := Lib.hid (by
    rw [hq0]
    refine ⟨?_, ?_, ?_, ?_, ?_⟩
    all_goals first | (rw [old_box (by simp), new_at (by simp)]; rfl; done) | (rw [new_at (by simp)]; rfl; done) | (rw [new_frz (by simp)]; done) | (simp; done) | go_grown)
  rw [← hq0]
  clear hq0
  have c0_ := I0.out.c0
  have r_ := I0.out.r
  have f_ := I0.out.f
  have size_ := I0.out.size
  have hw0_ : w.heap.size < q0.heap.size := by omega
  have hw1_ : w.heap.size + 1 < q0.heap.size := by omega
  go_wp2_with fail
  go_at_call 20
  refine (idbok_any D lo hi _ _ (R0.out.below I0.out.below hh) (by have := I0.out.size; omega)).mono ?_
  rw [HV.out]
  rintro e w1 ⟨rfl, hb1⟩
  have I1 : Hid (Ag2 w w1 (.slice a n c)) := Lib.hid (I0.out.next (hb1.mono (I0.out.size)))
  clear c0_ r_ f_ size_ hw0_ hw1_
  have c0_ := I1.out.c0
  have r_ := I1.out.r
  have f_ := I1.out.f
  have size_ := I1.out.size
  have hw0_ : w.heap.size < w1.heap.size := by omega
  have hw1_ : w.heap.size + 1 < w1.heap.size := by omega
  go_wp2_with fail
  go_at_call 49
  refine (idcopy_any D lo hi _ _ (R0.out.below I1.out.below hh) (by have := I1.out.size; omega) hd).mono ?_
  rintro e w2 ⟨rv, rfl, hrow, hb2⟩
  have I2 : Hid (Ag2 w w2 (.slice a n c)) := Lib.hid (I1.out.next (hb2.mono (I1.out.size)))
  clear c0_ r_ f_ size_ hw0_ hw1_
  have HW := Lib.hid hrow
  obtain ⟨ra, rc, rfl⟩ := hrow.slice
  clear hrow
  obtain ⟨n9, hn9⟩ : ∃ n, n = D.length := ⟨_, rfl⟩
  rw [← hn9] at HW ⊢
  clear hn9
  have c0_ := I2.out.c0
  have r_ := I2.out.r
  have f_ := I2.out.f
  have size_ := I2.out.size
  have hw0_ : w.heap.size < w2.heap.size := by omega
  have hw1_ : w.heap.size + 1 < w2.heap.size := by omega
  go_wp2_with fail
  refine bodyPost_ret (v := .tuple #[.agg #[.slice ra n9 rc], .slice none 0 0]) (by simp [results, Try.results34, go_sem, *]) rfl (ageP (.slice ra n9 rc) (.slice none 0 0) w.heap.size rfl ?_ ?_ ⟨Nat.le_refl _, by have := I2.out.below.size; simpa [World.setCell] using this⟩ ?_)
  · rw [HI.out]
    exact ((HW.out.setCell (.inl (by have := I1.out.size; simp <;> omega)) _).wide (by have := I1.out.size; omega) (by simp [World.setCell]))
  · rw [HG.out]; exact ⟨rfl, .inl ⟨rfl, none, 0, rfl⟩⟩
  · exact (I2.out.below.setCell (by simp <;> omega) _)

set_option linter.unusedVariables false in
set_option maxRecDepth 100000 in
set_option maxHeartbeats 8000000 in
theorem iagd_3 (D : List Ls) (by_ : Int) (lo hi : Nat) (v : Value) (w : World) (hr : DRow w lo hi v D) (hh : hi ≤ w.heap.size) (hd : dtot D ≤ 1048576) (hv : dokB D = true) (h1 : ¬ by_ < 0) (h2 : 60 < by_) :
    Calls Try.prog 34 #[.agg #[v], .int .i64 by_] w fun e w' => AgePost D by_ w e w' := by
  have HV := Lib.hid hv
  have hc : agok D by_ = false := by unfold agok; rw [hv, inB_false (by omega)]; rfl
  have HI : Hid (agD D by_ = D) := Lib.hid (if_neg (by rw [hc]; decide))
  have HG : Hid (agG D by_ = []) := Lib.hid (if_neg (by rw [hc]; decide))
  have R0 := Lib.hid hr
  have hr' := hr
  obtain ⟨a, c, us, xs, bs, ev, X⟩ := hr'
  subst ev
  obtain ⟨n, hn⟩ : ∃ n, n = D.length := ⟨_, rfl⟩
  rw [← hn] at R0 ⊢
  clear X hr hn hv hc
  go_enter Try.func34, Try.ntmps34
  go_wp2_with fail
  obtain ⟨q0, hq0⟩ : ∃ q, q = (w.alloc (.cells #[.slice a n c] 26)).alloc (.cells #[.slice none 0 0] 26) := ⟨_, rfl⟩
  have I0 : Hid (Ag2 w q0 (.slice a n c)) := Lib.hid (by
    rw [hq0]
    refine ⟨?_, ?_, ?_, ?_, ?_⟩
    all_goals first | (rw [old_box (by simp), new_at (by simp)]; rfl; done) | (rw [new_at (by simp)]; rfl; done) | (rw [new_frz (by simp)]; done) | (simp; done) | go_grown)
  rw [← hq0]
  clear hq0
  have c0_ := I0.out.c0
  have r_ := I0.out.r
  have f_ := I0.out.f
  have size_ := I0.out.size
  have hw0_ : w.heap.size < q0.heap.size := by omega
  have hw1_ : w.heap.size + 1 < q0.heap.size := by omega
  go_wp2_with fail
  go_at_call 20
  refine (idbok_any D lo hi _ _ (R0.out.below I0.out.below hh) (by have := I0.out.size; omega)).mono ?_
  rw [HV.out]
  rintro e w1 ⟨rfl, hb1⟩
  have I1 : Hid (Ag2 w w1 (.slice a n c)) := Lib.hid (I0.out.next (hb1.mono (I0.out.size)))
  clear c0_ r_ f_ size_ hw0_ hw1_
  have c0_ := I1.out.c0
  have r_ := I1.out.r
  have f_ := I1.out.f
  have size_ := I1.out.size
  have hw0_ : w.heap.size < w1.heap.size := by omega
  have hw1_ : w.heap.size + 1 < w1.heap.size := by omega
  go_wp2_with fail
  go_at_call 49
  refine (idcopy_any D lo hi _ _ (R0.out.below I1.out.below hh) (by have := I1.out.size; omega) hd).mono ?_
  rintro e w2 ⟨rv, rfl, hrow, hb2⟩
  have I2 : Hid (Ag2 w w2 (.slice a n c)) := Lib.hid (I1.out.next (hb2.mono (I1.out.size)))
  clear c0_ r_ f_ size_ hw0_ hw1_
  have HW := Lib.hid hrow
  obtain ⟨ra, rc, rfl⟩ := hrow.slice
  clear hrow
  obtain ⟨n9, hn9⟩ : ∃ n, n = D.length := ⟨_, rfl⟩
  rw [← hn9] at HW ⊢
  clear hn9
  have c0_ := I2.out.c0
  have r_ := I2.out.r
  have f_ := I2.out.f
  have size_ := I2.out.size
  have hw0_ : w.heap.size < w2.heap.size := by omega
  have hw1_ : w.heap.size + 1 < w2.heap.size := by omega
  go_wp2_with fail
  refine bodyPost_ret (v := .tuple #[.agg #[.slice ra n9 rc], .slice none 0 0]) (by simp [results, Try.results34, go_sem, *]) rfl (ageP (.slice ra n9 rc) (.slice none 0 0) w.heap.size rfl ?_ ?_ ⟨Nat.le_refl _, by have := I2.out.below.size; simpa [World.setCell] using this⟩ ?_)
  · rw [HI.out]
    exact ((HW.out.setCell (.inl (by have := I1.out.size; simp <;> omega)) _).wide (by have := I1.out.size; omega) (by simp [World.setCell]))
  · rw [HG.out]; exact ⟨rfl, .inl ⟨rfl, none, 0, rfl⟩⟩
  · exact (I2.out.below.setCell (by simp <;> omega) _)

set_option linter.unusedVariables false in
set_option maxRecDepth 100000 in
set_option maxHeartbeats 8000000 in
theorem iagd_4 (D : List Ls) (by_ : Int) (lo hi : Nat) (v : Value) (w : World) (hr : DRow w lo hi v D) (hh : hi ≤ w.heap.size) (hv : dokB D = true) (h1 : ¬ by_ < 0) (h2 : ¬ 60 < by_) :
    Calls Try.prog 34 #[.agg #[v], .int .i64 by_] w fun e w' => AgePost D by_ w e w' := by
  have HV := Lib.hid hv
  have HIN : Hid (inB by_ 0 60 = true) := Lib.hid (inB_true (by omega) (by omega))
  have hc : agok D by_ = true := by unfold agok; rw [hv, HIN.out]; rfl
  have HI : Hid (agD D by_ = kept by_ D) := Lib.hid (if_pos hc)
  have HG : Hid (agG D by_ = gon by_ D) := Lib.hid (if_pos hc)
  have HMO : Hid (∀ k, dokB (midD by_ D k) = true) := Lib.hid fun k => midD_ok hv (by omega) k
  have HSR := Lib.hid (dokB_srt hv)
  have hn10 := dokB_len hv
  obtain ⟨i3, hi0, hz0, hz1, hz2⟩ := info_parts Try.info3
  have I3 := Lib.hid (And.intro hi0 (And.intro hz0 (And.intro hz1 hz2)))
  clear hi0 hz0 hz1 hz2
  have HZV : Hid (∀ w : World, (zeroValue 33).run Try.prog w = .ok (.agg #[.int .i64 0, .int .i64 0, .int .i64 0, .slice none 0 0, .slice none 0 0]) w) := Lib.hid fun w => by simp [Try.zeroValue33]
  have R0 := Lib.hid hr
  have hr' := hr
  obtain ⟨a, c, us, xs, bs, ev, X⟩ := hr'
  subst ev
  obtain ⟨n, hn⟩ : ∃ n, n = D.length := ⟨_, rfl⟩
  rw [← hn] at R0 ⊢
  have HN := Lib.hid hn
  have HX := Lib.hid X
  clear X hr hn hv hc
  rw [← HN.out] at hn10
  go_enter Try.func34, Try.ntmps34
  go_wp2_with fail
  obtain ⟨q0, hq0⟩ : ∃ q, q = (w.alloc (.cells #[.slice a n c] 26)).alloc (.cells #[.slice none 0 0] 26) := ⟨_, rfl⟩
  have I0 : Hid (Ag2 w q0 (.slice a n c)) := Lib.hid (by
    rw [hq0]
    refine ⟨?_, ?_, ?_, ?_, ?_⟩
    all_goals first | (rw [old_box (by simp), new_at (by simp)]; rfl; done) | (rw [new_at (by simp)]; rfl; done) | (rw [new_frz (by simp)]; done) | (simp; done) | go_grown)
  rw [← hq0]
  clear hq0
  have c0_ := I0.out.c0
  have r_ := I0.out.r
  have f_ := I0.out.f
  have size_ := I0.out.size
  have hw0_ : w.heap.size < q0.heap.size := by omega
  have hw1_ : w.heap.size + 1 < q0.heap.size := by omega
  go_wp2_with fail
  go_at_call 20
  refine (idbok_any D lo hi _ _ (R0.out.below I0.out.below hh) (by have := I0.out.size; omega)).mono ?_
  rw [HV.out]
  rintro e w1 ⟨rfl, hb1⟩
  have I1 : Hid (Ag2 w w1 (.slice a n c)) := Lib.hid (I0.out.next (hb1.mono (I0.out.size)))
  clear c0_ r_ f_ size_ hw0_ hw1_
  have c0_ := I1.out.c0
  have r_ := I1.out.r
  have f_ := I1.out.f
  have size_ := I1.out.size
  have hw0_ : w.heap.size < w1.heap.size := by omega
  have hw1_ : w.heap.size + 1 < w1.heap.size := by omega
  go_wp2_with fail
  go_at_call 50
  refine (shelf_any D lo hi _ _ (R0.out.below I1.out.below hh) (by have := I1.out.size; omega) HV.out).mono ?_
  rintro e w2 ⟨rfl, hsh, hb2⟩
  have I2 : Hid (Ag2 w w2 (.slice a n c)) := Lib.hid (I1.out.next (hb2.mono (I1.out.size)))
  clear c0_ r_ f_ size_ hw0_ hw1_
  obtain ⟨m, hm⟩ : ∃ q, q = w1.heap.size + 1 := ⟨_, rfl⟩
  rw [← hm] at hsh ⊢
  have HB3 : Hid (w.heap.size + 2 ≤ w1.heap.size ∧ w1.heap.size ≤ m) := Lib.hid ⟨I1.out.size, by omega⟩
  have HSH : Hid (ShA w2 m none (dfind (midD by_ D 0))) := Lib.hid (by rw [midD_zero]; exact ShA.of hsh)
  have HO0 : Hid (Own 3 1 w1 w2 (.slice none 0 0) 0 (ints [])) := Lib.hid ((Own.nil 3 1 w1).grow hb2)
  clear hsh hm
  have c0_ := I2.out.c0
  have r_ := I2.out.r
  have f_ := I2.out.f
  have size_ := I2.out.size
  have hw0_ : w.heap.size < w2.heap.size := by omega
  have hw1_ : w.heap.size + 1 < w2.heap.size := by omega
  go_wp2
  clear c0_ r_ f_ size_ hw0_ hw1_
  go_loopw [7, 28] (fun lv i wr => ∃ (k : Nat) (gv : Value), k ≤ n ∧ i = .int .i64 (k : Int) ∧ lv = gv ∧ Hid (Ag2 w wr (.slice a n c)) ∧ Hid (ShA wr m gv.ownBlock (dfind (midD by_ D k))) ∧ Hid (Own 3 1 w1 wr gv (gon by_ (D.take k)).length (ints (gon by_ (D.take k)))) ∧ Hid (gv.ownBlock ≠ some m)) (fun _ i _ => n - (intOf i).toNat)
  case atStart => exact ⟨0, _, Nat.zero_le _, rfl, rfl, I2, HSH, HO0, Lib.hid (by simp [Value.ownBlock])⟩
  case round =>
    clear HSH HO0 I2
    obtain ⟨k, gv, hk, rfl, rfl, hR, hS, HO, HNE⟩ := hrel
    obtain ⟨xa, xc, erv⟩ := HO.out.slice
    subst erv
    obtain ⟨og, hog⟩ : ∃ q, q = (Value.slice xa (gon by_ (D.take k)).length xc).ownBlock := ⟨_, rfl⟩
    rw [← hog] at hS HNE
    obtain ⟨zn, hzn⟩ : ∃ q, q = (gon by_ (D.take k)).length := ⟨_, rfl⟩
    rw [← hzn] at HO hog ⊢
    have HOG := Lib.hid hog
    have hzl : zn ≤ n := by rw [hzn]; refine Nat.le_trans (gon_len _ _) ?_; rw [List.length_take]; omega
    have HZN := Lib.hid hzn
    have hmw := hS.out.lt
    clear hzn hog
    by_cases hlt : k < n
    · skip
      obtain ⟨p, hp⟩ : ∃ p, D[k]? = some p := ⟨_, List.getElem?_eq_getElem (by have := HN.out; omega)⟩
      obtain ⟨G, rfl, g1, g2, _, g4, _⟩ := HX.out.outer (by have := HN.out; omega)
      have hc := (g4 k p hp).below hR.out.below (by omega)
      obtain ⟨i1, i2, i3'⟩ := HX.out.inner k p hp
      have RP := Lib.hid (i1.below hR.out.below (by omega))
      obtain ⟨x1, y1, x2, y2, e1, e2⟩ := i1.slice
      rw [e1, e2] at hc RP
      obtain ⟨d1, d2, d3, d4, d5⟩ := hc
      have hk0 : (0 : Int) ≤ (k : Int) := by omega
      have hk1 : (k : Int) < (n : Int) := by omega
      have hbz := hR.out.below.size
      have hGw : G < wr.heap.size := by omega
      obtain ⟨H0, hH0⟩ : ∃ q, q = (bs k).1 := ⟨_, rfl⟩
      obtain ⟨H1, hH1⟩ : ∃ q, q = (bs k).2 := ⟨_, rfl⟩
      have z1 : H1 ≤ wr.heap.size := by omega
      rw [← hH0, ← hH1] at RP
      have Hp := Lib.hid hp
      have HPO := Lib.hid (dokB_get HV.out hp).1
      have hsz := hR.out.size
      have cc0 := hR.out.c0
      have hsz0 : w.heap.size < wr.heap.size := by omega
      clear i1 i2 i3' e1 e2 hH0 hH1 hp g4
      obtain ⟨wq, hwq⟩ : ∃ q, q = wr.alloc (.cells #[.int .i64 p.o, .int .i64 p.s, .int .i64 p.g, .slice x1 p.K.length y1, .slice x2 p.T.length y2] 33) := ⟨_, rfl⟩
      have k0 : wq.cell? ⟨wr.heap.size, 0, none⟩ = some (.int .i64 p.o) := by rw [hwq, new_at rfl]; rfl
      have k1 : wq.cell? ⟨wr.heap.size, 1, none⟩ = some (.int .i64 p.s) := by rw [hwq, new_at rfl]; rfl
      have k2 : wq.cell? ⟨wr.heap.size, 2, none⟩ = some (.int .i64 p.g) := by rw [hwq, new_at rfl]; rfl
      have k3 : wq.cell? ⟨wr.heap.size, 3, none⟩ = some (.slice x1 p.K.length y1) := by rw [hwq, new_at rfl]; rfl
      have k4 : wq.cell? ⟨wr.heap.size, 4, none⟩ = some (.slice x2 p.T.length y2) := by rw [hwq, new_at rfl]; rfl
      have kz : wr.heap.size < wq.heap.size := by rw [hwq]; simp
      have hbq : Below wr.heap.size wr wq := by rw [hwq]; go_grown
      have HBQ := Lib.hid hbq
      have HSQ := Lib.hid (hS.out.grow hbq)
      have HOQ := Lib.hid (HO.out.grow hbq)
      have RPq := Lib.hid (RP.out.below hbq z1)
      have zq : H1 ≤ wq.heap.size := by omega
      have mq : m < wq.heap.size := by omega
      have hbd := Ls.ok_bd HPO.out
      have o0 := hbd.1
      have o9 := hbd.2.1
      have hl1 : p.K.length ≤ 1048576 := by omega
      have hl2 : p.T.length ≤ 1048576 := by omega
      obtain ⟨z, hz⟩ : ∃ z, z = (ageL by_ p).g := ⟨_, rfl⟩
      have HAV : Hid (agV p.o p.s p.g by_ p.K p.T = z) := Lib.hid (by rw [hz]; exact agV_ageL HPO.out HIN.out)
      have HBB : Hid (agB p.o p.s p.g by_ p.K p.T = true) := Lib.hid (by unfold agB; rw [show lokB p.o p.s p.g p.K p.T = true from HPO.out, HIN.out]; rfl)
      have HAL : Hid (ageL by_ p = ⟨p.o, p.s, z, p.K, p.T⟩) := Lib.hid (by rw [hz]; rfl)
      have HPUT := Lib.hid (midD_put (by_ := by_) HSR.out Hp.out)
      obtain ⟨f, sm, sf⟩ := HSQ.out
      have SM := Lib.hid sm
      have SF := Lib.hid sf
      have HR2 := Lib.hid (hR.out.next (HBQ.out.mono hsz))
      have hmv := HB3.out
      go_wp2_with fail
      rw [← hwq]
      clear hwq hbq hbd sm sf hz RP hR hS HO HSQ cc0 d1 d2 d3 d4 d5
      go_upto_region 9 with (fail)
      go_cut [33] (fun sm9 wx => sm9 = .map (some m) ∧ ∃ (ra sa : Option Addr) (rc sc : Nat), Hid (MapI wx m (putM f p.o (.agg #[.int .i64 p.o, .int .i64 p.s, .int .i64 z, .slice ra p.K.length rc, .slice sa p.T.length sc]))) ∧ Hid (ShF wx m og (dfind (kept by_ (D.take k) ++ ageL by_ p :: D.drop (k + 1))) (putM f p.o (.agg #[.int .i64 p.o, .int .i64 p.s, .int .i64 z, .slice ra p.K.length rc, .slice sa p.T.length sc]))) ∧ Hid (wx.cell? ⟨wr.heap.size, 0, none⟩ = some (.int .i64 p.o) ∧ wr.heap.size < wx.heap.size ∧ m < wx.heap.size) ∧ Hid (Ag2 w wx (.slice (some ⟨G, 0, none⟩) n c)) ∧ Hid (Own 3 1 w1 wx (.slice xa zn xc) zn (ints (gon by_ (D.take k)))))
      case first =>
        go_region_law (go_simp; go_at_call 76; refine (iage_any p.o p.s p.g by_ H0 H1 _ _ _ _ p.K p.T _ rfl rfl RPq.out.drew zq hl1 hl2).mono ?_; rw [HAV.out, HBB.out]; rintro e w3 ⟨ru, rv, rfl, hr3, hb3'⟩; have hb3 := undrew hb3'; clear hb3'; obtain ⟨ra, rc, sa, sc, rfl, rfl⟩ := hr3.slice; have HR3 : Hid (LRow w3 wq.heap.size w3.heap.size (.slice ra p.K.length rc) (.slice sa p.T.length sc) p.K.length p.T.length (flat2 p.K) (flat p.T)) := Lib.hid hr3; have HB3q := Lib.hid hb3; have SM3 : Hid (MapI w3 m f) := Lib.hid (SM.out.move (hb3.block m mq)); have k03 : w3.cell? ⟨wr.heap.size, 0, none⟩ = some (.int .i64 p.o) := ((bcell hb3).1 _ 0 kz).trans k0; obtain ⟨w9, hrun, hm9, ho9⟩ := SM3.out.upd (t := 82) Try.underlying82 Try.underlying3 p.o o0 o9 (.agg #[.int .i64 p.o, .int .i64 p.s, .int .i64 z, .slice ra p.K.length rc, .slice sa p.T.length sc]); clear hr3 hb3)
        all_goals
          clear hrun k03
          have hz9 := ho9.2.2.2.1
          have hz3 := HB3q.out.size
          have HSF9 : Hid (ShF w9 m og (dfind (kept by_ (D.take k) ++ ageL by_ p :: D.drop (k + 1))) (putM f p.o (.agg #[.int .i64 p.o, .int .i64 p.s, .int .i64 z, .slice ra p.K.length rc, .slice sa p.T.length sc]))) := Lib.hid (by
            rw [← HPUT.out, HAL.out]
            exact ShF.put (l := ⟨p.o, p.s, z, p.K, p.T⟩) (SF.out.grow HB3q.out) ho9 HR3.out (Nat.le_refl _) mq (fun g hg => (HOQ.out.row.lt g (HOG.out.symm.trans hg)).2))
          have k9 : w9.cell? ⟨wr.heap.size, 0, none⟩ = some (.int .i64 p.o) := (World.cell?_of_block (w := w3) (a := ⟨wr.heap.size, 0, none⟩) (ho9.2.2.2.2 wr.heap.size (by omega))).trans (((bcell HB3q.out).1 _ 0 kz).trans k0)
          have z9 : wr.heap.size < w9.heap.size := by omega
          have HM9 := Lib.hid hm9
          have HR9 := Lib.hid (HR2.out.next ((HB3q.out.mono (by omega)).trans (ho9.below (B := w.heap.size + 2) (by omega))))
          have HO9 := Lib.hid ((HOQ.out.grow HB3q.out).only ho9 (by omega) (fun q => HNE.out (HOG.out.trans q)))
          have hmw9 : m < w9.heap.size := by omega
          clear hm9 ho9 HR3 HB3q SM3 hz9 hz3
          go_wp2_with fail
          go_meet
          exact ⟨rfl, _, _, _, _, HM9, HSF9, Lib.hid ⟨k9, z9, hmw9⟩, HR9, HO9⟩
      case rest =>
        obtain ⟨rfl, ra, sa, rc, sc, HM9, HSF9, hk9, HR9, HO9⟩ := hcut
        obtain ⟨w9, rfl⟩ : ∃ x, x = wc := ⟨_, rfl⟩
        obtain ⟨k9, z9, hmw9⟩ := hk9.out
        clear hk9 k0 k1 k2 k3 k4 HR2 HOQ HPUT SF SM RPq HBQ HAV HBB
        cases hx : exl (ageL by_ p)
        · have hzb : (z == 60) = false := by have h := hx; rw [HAL.out] at h; exact h
          have HMY := Lib.hid (midD_yes (by_ := by_) Hp.out hx)
          have HGN := Lib.hid (gon_no (by_ := by_) Hp.out hx)
          clear hx
          go_wp2_with (at_lookup; refine wpList_lookup_I _ rfl _ _ 82 false rfl 3 33 Try.underlying82 Try.underlying3 (.agg #[.int .i64 0, .int .i64 0, .int .i64 0, .slice none 0 0, .slice none 0 0]) (HZV.out _) m _ rfl HM9.out p.o rfl (.agg #[.int .i64 p.o, .int .i64 p.s, .int .i64 z, .slice ra p.K.length rc, .slice sa p.T.length sc]) (by simp [putM]) ?_)
          go_at_call 77
          refine (expired_any p.o p.s z _ _ _ _ _ _ _ false hzb).mono ?_
          rintro e w10 ⟨rfl, hb10⟩
          have HS10 : Hid (ShA w10 m og (dfind (midD by_ D (k + 1)))) := Lib.hid (by rw [← HMY.out]; exact ShA.grow ⟨_, HM9.out, HSF9.out⟩ hb10)
          have HR10 := Lib.hid (HR9.out.next (hb10.mono (by have := HR9.out.size; omega)))
          have HO10 := Lib.hid (HO9.out.grow hb10)
          clear hb10
          go_wp2_with fail
          go_roundw
          case rel => exact ⟨k + 1, _, by omega, by go_num, rfl, HR10, Lib.hid (by rw [← HOG.out]; exact HS10.out), Lib.hid (by rw [HGN.out, ← HZN.out]; exact HO10.out), Lib.hid (by rw [← HOG.out]; exact HNE.out)⟩
          case measure => simp [intOf]; omega
        · have hzb : (z == 60) = true := by have h := hx; rw [HAL.out] at h; exact h
          have HMN := Lib.hid (midD_no (by_ := by_) HSR.out Hp.out hx)
          have HGN := Lib.hid (gon_yes (by_ := by_) Hp.out hx)
          clear hx
          go_wp2_with (at_lookup; refine wpList_lookup_I _ rfl _ _ 82 false rfl 3 33 Try.underlying82 Try.underlying3 (.agg #[.int .i64 0, .int .i64 0, .int .i64 0, .slice none 0 0, .slice none 0 0]) (HZV.out _) m _ rfl HM9.out p.o rfl (.agg #[.int .i64 p.o, .int .i64 p.s, .int .i64 z, .slice ra p.K.length rc, .slice sa p.T.length sc]) (by simp [putM]) ?_)
          go_at_call 77
          refine (expired_any p.o p.s z _ _ _ _ _ _ _ true hzb).mono ?_
          rintro e w10 ⟨rfl, hb10⟩
          have HM10 := Lib.hid (HM9.out.move (hb10.block m hmw9))
          have HSF10 := Lib.hid (HSF9.out.grow hb10)
          have HR10 := Lib.hid (HR9.out.next (hb10.mono (by have := HR9.out.size; omega)))
          have HO10 := Lib.hid (HO9.out.grow hb10)
          have k10 : w10.cell? ⟨wr.heap.size, 0, none⟩ = some (.int .i64 p.o) := ((bcell hb10).1 _ 0 z9).trans k9
          have z10 := hb10.size
          clear hb10 HM9 HSF9 HR9 HO9
          go_wp2_with (first | (at_delete; refine wpList_delete_I _ rfl _ _ 82 3 rfl 33 Try.underlying82 Try.underlying3 m _ rfl HM10.out p.o rfl ?_; intro w11 hm11 ho11; have hz11 : w10.heap.size ≤ w11.heap.size := Nat.le_of_eq ho11.2.2.2.1.symm; have k11 : w11.cell? ⟨wr.heap.size, 0, none⟩ = some (.int .i64 p.o) := (World.cell?_of_block (w := w10) (a := ⟨wr.heap.size, 0, none⟩) (ho11.2.2.2.2 wr.heap.size (by omega))).trans k10; have HOo := Lib.hid (HO10.out.only ho11 (by omega) (fun q => HNE.out (HOG.out.trans q)))) | (at_builtin; refine wpList_append_lies _ rfl _ _ 59 rfl w1.heap.size 3 i3 (.int .i64 0) 1 8 Try.underlying59 I3.out.1 I3.out.2.1 I3.out.2.2.1 I3.out.2.2.2 rfl (by decide) (.slice xa zn xc) zn (ints (gon by_ (D.take k))) rfl (HOo.out.row.alloc _) ⟨w11.heap.size, 0, none⟩ 1 1 [.int .i64 p.o] rfl rfl (fun j u hj => cell_one_new1 w11 _ 3 j u hj) (int_one1 _) (by decide) (by unfold maxLen; omega) (by omega) (by have := HOo.out.size; simp; omega) _ rfl ?_; intro g4 cap4 w4 hown4 hgrow4 hat4 hlt4))
          have HS11 : Hid (ShA w11 m og (dfind (midD by_ D (k + 1)))) := Lib.hid (by rw [← HMN.out]; exact ⟨_, hm11, HSF10.out.del ho11⟩)
          have HR11 := Lib.hid (HR10.out.next (ho11.below (B := w.heap.size + 2) (by omega)))
          have z11 : wr.heap.size < w11.heap.size := by omega
          have m11 : m < w11.heap.size := by omega
          clear hm11 ho11 hz11 HM10 HSF10 HR10 HO10 k10 z10
          have HOn : Hid (Own 3 1 w1 w4 (.slice (some ⟨g4, 0, none⟩) (zn + 1) cap4) (gon by_ (D.take (k + 1))).length (ints (gon by_ (D.take (k + 1))))) := Lib.hid (by
            have hg : w11.grownBy w4 (Value.slice xa zn xc).ownBlock := ⟨hgrow4.os, hgrow4.tape, hgrow4.output, by have := hgrow4.size; simp at this; omega, fun j hj hne => by rw [hgrow4.block j (by simp; omega) hne]; exact Below.heap_alloc _ _ j hj⟩
            have h := HOo.out.app hg hown4
            rw [HGN.out, List.length_append, ← HZN.out]
            have e : ints (gon by_ (D.take k)) ++ [.int .i64 p.o] = ints (gon by_ (D.take k) ++ [p.o]) := by simp [ints]
            rw [← e]
            exact h)
          have hsz4 : w11.heap.size ≤ w4.heap.size := by have := hgrow4.size; simp at this; omega
          have hg4 : og = some g4 ∨ w11.heap.size ≤ g4 := by
            rcases hat4 with h | h
            · exact .inl (HOG.out.trans h)
            · exact .inr (by rw [h]; simp)
          have HS4 : Hid (ShA w4 m (some g4) (dfind (midD by_ D (k + 1)))) := Lib.hid (HS11.out.app hsz4 (fun b hb hne => by rw [hgrow4.block b (by simp; omega) (by rw [← HOG.out]; exact fun q => hne q.symm)]; exact Below.heap_alloc _ _ b hb) HNE.out (fun g hg => by
            obtain rfl : g4 = g := Option.some.inj hg
            exact hg4))
          have HN4 : Hid (some g4 ≠ some m) := Lib.hid fun q => by
            rcases hg4 with h | h
            · exact HNE.out (h.trans q)
            · have := Option.some.inj q; omega
          have HR4 := Lib.hid (HR11.out.next (show Below (w.heap.size + 2) w11 w4 from by
            have h1 : Below (w.heap.size + 2) w11 (w11.alloc (.cells #[.int .i64 p.o] 3)) := (Below.refl _ _).alloc (by omega) _
            exact h1.grown hgrow4 (by simp; omega) (fun j hj => by have := (HOo.out.row.lt j hj).1; omega)))
          clear hown4 hgrow4 hat4 hlt4 hg4 hsz4
          go_wp2_with fail
          go_roundw
          case rel => exact ⟨k + 1, _, by omega, by go_num, rfl, HR4, HS4, HOn, HN4⟩
          case measure => simp [intOf]; omega
    · have hge : ¬ ((k : Int) < (n : Int)) := by omega
      have HE : Hid (midD by_ D k = agD D by_) := Lib.hid (by rw [HI.out]; exact midD_end (by have := HN.out; omega))
      have HGE : Hid (gon by_ (D.take k) = agG D by_) := Lib.hid (by rw [HG.out, List.take_of_length_le (by have := HN.out; omega)])
      have HMK := Lib.hid (HMO.out k)
      have hsz := hR.out.size
      have hmv := HB3.out
      have hgl := HO.out.size
      go_wp2_with fail
      go_at_call 52
      refine (idb_A (dfind (midD by_ D k)) m og _ hS.out (shok_dfind HMK.out)).mono ?_
      rintro e w5 ⟨rv, ss, rfl, s1, s2, hrow, hb5⟩
      rw [filt_dfind HMK.out s1 s2] at hrow
      have HW := Lib.hid hrow
      obtain ⟨ra, rc, rfl⟩ := hrow.slice
      have I5 : Hid (Ag2 w w5 (.slice a n c)) := Lib.hid (hR.out.next (hb5.mono hsz))
      have HGR : Hid (Row 1 w5 w1.heap.size wr.heap.size (.slice xa zn xc) zn (gon by_ (D.take k))) := Lib.hid ((row_of_own HO.out.row (by omega)).below hb5 (Nat.le_refl _))
      have z5 := hb5.size
      clear hrow s1 s2 hb5
      obtain ⟨n9, hn9⟩ : ∃ n, n = (midD by_ D k).length := ⟨_, rfl⟩
      rw [← hn9] at HW ⊢
      clear hn9
      have r_ := I5.out.r
      have f_ := I5.out.f
      have hw1_ : w.heap.size + 1 < w5.heap.size := by omega
      go_wp2_with fail
      refine bodyPost_ret (v := .tuple #[.agg #[.slice ra n9 rc], .slice xa zn xc]) (by simp [results, Try.results34, go_sem, *]) rfl (ageP (.slice ra n9 rc) (.slice xa zn xc) wr.heap.size rfl ?_ ?_ ⟨by omega, by simp [World.setCell]; omega⟩ ?_)
      · rw [← HE.out]
        exact ((HW.out.setCell (.inl (by simp <;> omega)) _).wide (Nat.le_refl _) (by simp [World.setCell]))
      · rw [← HGE.out, ← HZN.out]
        exact ((HGR.out.setCell (.inl (by simp <;> omega)) _).wide (by omega) (Nat.le_refl _))
      · exact (I5.out.below.setCell (by simp <;> omega) _)

end Go.Proofs.Ytfpafjdakipccaa
