/- An advertisement as bytes, by the model. -/
import Derived.Test.YtfpafjdakipccaaX5
import Derived.Test.YtfpafjdakipccaaX7
import Derived.Deep.DeepCutAuto
namespace Go.Proofs.Ytfpafjdakipccaa
open Go.RowKit
theorem brow_box (w : World) (z : Int) : BRow 1 (w.alloc (.cells #[.int .u8 z] 5)) w.heap.size (w.heap.size + 1) (.slice (some ⟨w.heap.size, 0, none⟩) 1 1) 1 [z] := by
  refine ⟨rfl, .inr ⟨_, 1, rfl, Nat.le_refl _, Nat.lt_succ_self _, by decide, fun q x hx => ?_, fun o => new_frz rfl⟩⟩
  rcases q with _ | q
  · simp at hx; subst hx; simp
  · simp at hx
theorem brow_box_then {w w2 : World} {z : Int} {v : Value} {n : Nat} {X : List Value} (h : Own 5 1 (w.alloc (.cells #[.int .u8 z] 5)) w2 v n X) : BRow 1 w2 w.heap.size (w.heap.size + 1) (.slice (some ⟨w.heap.size, 0, none⟩) 1 1) 1 [z] :=
  (brow_box w z).below h.below (by simp)
theorem brow_box_then' {w w2 : World} {z : Int} {v : Value} {n : Nat} {X : List Value} (h : Own 5 1 (w.alloc (.cells #[.int .u8 z] 5)).drew w2 v n X) : BRow 1 w2 w.heap.size (w.heap.size + 1) (.slice (some ⟨w.heap.size, 0, none⟩) 1 1) 1 [z] :=
  (show BRow 1 (w.alloc (.cells #[.int .u8 z] 5)).drew _ _ _ _ _ from brow_box w z).below h.below (by simp)
theorem nb1 (x : Int) : nb 1 x = [x % 256] := by simp [nb, nbw]
theorem nb1' {x : Int} (h : 0 <= x) (h1 : x <= 255) : nb 1 x = [x] := by rw [nb1]; congr 1; omega
theorem one_news {w : World} {b : Nat} {x : Value} (h : w.cell? ⟨b, 0, none⟩ = some x) : ∀ (j : Nat) (u : Value), [x][j]? = some u -> w.cell? ((⟨b, 0, none⟩ : Addr).add j) = some u := by
  intro j u hj
  rcases j with _ | j
  · simp at hj; subst hj; rw [add_none]; exact h
  · simp at hj
theorem BRow.grown {w w4 : World} {lo hi n : Nat} {r : Option Nat} {v : Value} {Z : List Int} (h : BRow 1 w lo hi v n Z) (hg : w.grownBy w4 r) (hh : hi <= w.heap.size) (hr : ∀ k, r = some k -> k < lo ∨ hi <= k) : BRow 1 w4 lo hi v n Z := by
  obtain ⟨h0, h⟩ := h
  refine ⟨h0, ?_⟩
  rcases h with h | ⟨g, cap, rfl, h1, h2, h3, h4, h5⟩
  · exact .inl h
  · have hb := hg.block g (by omega) (fun e => by have := hr g e.symm; omega)
    refine .inr ⟨g, cap, rfl, h1, h2, h3, fun q z hz => ?_, fun o => ?_⟩
    · rw [World.cell?_of_block (w := w) (a := ⟨g, q, none⟩) hb]; exact h4 q z hz
    · rw [World.frozen?_of_block (w := w) (a := ⟨g, o, none⟩) hb]; exact h5 o
theorem box_cell {w w' : World} {x : Value} {T : TypeId} (h : w' = w.alloc (.cells #[x] T)) : w'.cell? ⟨w.heap.size, 0, none⟩ = some x := by
  subst h; rw [new_at rfl]; rfl
theorem bbox_below {w w' : World} {o : Obj} (h : w' = w.alloc o) : Below w.heap.size w w' := by
  subst h; exact (Below.refl _ _).alloc (Nat.le_refl _) _
theorem box_size {w w' : World} {o : Obj} (h : w' = w.alloc o) : w.heap.size + 1 <= w'.heap.size := by
  subst h; simp
theorem rs3_keep {w w1 w2 : World} {b0 b1 b2 o0 o1 o2 : Nat} {v0 v1 v2 : Value} (l0 : b0 < w.heap.size) (l1 : b1 < w.heap.size) (l2 : b2 < w.heap.size) (hb : Below w.heap.size w1 w2) (h : w1.cell? ⟨b0, o0, none⟩ = some v0 /\ w1.cell? ⟨b1, o1, none⟩ = some v1 /\ w1.cell? ⟨b2, o2, none⟩ = some v2 /\ w.heap.size <= w1.heap.size /\ Below w.heap.size w w1) : w2.cell? ⟨b0, o0, none⟩ = some v0 /\ w2.cell? ⟨b1, o1, none⟩ = some v1 /\ w2.cell? ⟨b2, o2, none⟩ = some v2 /\ w.heap.size <= w2.heap.size /\ Below w.heap.size w w2 := by
  obtain ⟨h0, h1, h2, hs, hB⟩ := h
  have hz := hb.size
  exact ⟨by rw [hb.cell (p := ⟨b0, o0, none⟩) l0]; exact h0, by rw [hb.cell (p := ⟨b1, o1, none⟩) l1]; exact h1, by rw [hb.cell (p := ⟨b2, o2, none⟩) l2]; exact h2, by omega, hB.trans hb⟩
theorem rs3_start {w wr : World} {b0 b1 b2 o0 o1 o2 : Nat} {v0 v1 v2 : Value} (h0 : wr.cell? ⟨b0, o0, none⟩ = some v0) (h1 : wr.cell? ⟨b1, o1, none⟩ = some v1) (h2 : wr.cell? ⟨b2, o2, none⟩ = some v2) (hB : Below w.heap.size w wr) : wr.drew.cell? ⟨b0, o0, none⟩ = some v0 /\ wr.drew.cell? ⟨b1, o1, none⟩ = some v1 /\ wr.drew.cell? ⟨b2, o2, none⟩ = some v2 /\ w.heap.size <= wr.drew.heap.size /\ Below w.heap.size w wr.drew := ⟨h0, h1, h2, hB.size, hB.drew⟩
theorem rs3_out {w w1 : World} {b0 b1 b2 o0 o1 o2 : Nat} {v0 v1 v2 : Value} (h : w1.cell? ⟨b0, o0, none⟩ = some v0 /\ w1.cell? ⟨b1, o1, none⟩ = some v1 /\ w1.cell? ⟨b2, o2, none⟩ = some v2 /\ w.heap.size <= w1.heap.size /\ Below w.heap.size w w1) : w.heap.size <= w1.heap.size /\ Below w.heap.size w w1 := h.2.2.2
set_option maxRecDepth 100000 in
set_option maxHeartbeats 8000000 in
theorem slbytes_no (o s ag : Int) (lo hi lo' hi' n m : Nat) (u v : Value) (K : List Lk) (T : List Ed) (w : World) (hK : K.length = n) (hT : T.length = m) (hr : Row 2 w lo hi u n (flat2 K)) (hr' : Row 3 w lo' hi' v m (flat T)) (hh : hi <= w.heap.size) (hh' : hi' <= w.heap.size) (hv : lokB o s ag K T = false) :
    Calls Try.prog 103 #[.agg #[.int .i64 o, .int .i64 s, .int .i64 ag, u, v]] w fun e w' => e = .returned (.slice none 0 0) /\ Below w.heap.size w w' := by
  have R0 := Lib.hid hr
  have R1 := Lib.hid hr'
  have HK := Lib.hid hK
  have HT := Lib.hid hT
  have Hv := Lib.hid hv
  obtain ⟨ad, cp, rfl⟩ := hr.slice
  obtain ⟨ae, cq, rfl⟩ := hr'.slice
  clear hr hr' hK hT hv
  go_enter Try.func103, Try.ntmps103
  go_wp2_with fail
  go_at_call 48
  refine (slok_any o s ag lo hi lo' hi' n m _ _ K T _ HK.out HT.out (R0.out.below (B := w.heap.size) (by go_grown) (by omega)) (R1.out.below (B := w.heap.size) (by go_grown) (by omega)) (by first | omega | (simp; omega)) (by first | omega | (simp; omega))).mono ?_
  rw [Hv.out]
  rintro e v1 ⟨rfl, hb1⟩
  have sz1 : w.heap.size + 1 <= v1.heap.size := by have hh := hb1.size; simp at hh; omega
  have st1 : Below w.heap.size w v1 := Below.trans (by go_grown) (hb1.mono (by simp))
  have c1_0 : v1.cell? ⟨w.heap.size, 0, none⟩ = some (.int .i64 o) := by rw [(bcell hb1).1 _ _ (by simp)]; first | (rw [new_at (by simp)]; rfl) | simp
  have c1_1 : v1.cell? ⟨w.heap.size, 1, none⟩ = some (.int .i64 s) := by rw [(bcell hb1).1 _ _ (by simp)]; first | (rw [new_at (by simp)]; rfl) | simp
  have c1_2 : v1.cell? ⟨w.heap.size, 2, none⟩ = some (.int .i64 ag) := by rw [(bcell hb1).1 _ _ (by simp)]; first | (rw [new_at (by simp)]; rfl) | simp
  have c1_3 : v1.cell? ⟨w.heap.size, 3, none⟩ = some (.slice ad n cp) := by rw [(bcell hb1).1 _ _ (by simp)]; first | (rw [new_at (by simp)]; rfl) | simp
  have c1_4 : v1.cell? ⟨w.heap.size, 4, none⟩ = some (.slice ae m cq) := by rw [(bcell hb1).1 _ _ (by simp)]; first | (rw [new_at (by simp)]; rfl) | simp
  have B1 : Hid (Below w.heap.size w v1) := st1
  have R1_0 : Hid (Row 2 v1 (lo) (hi) (.slice ad n cp) n (flat2 K)) := R0.out.below st1 (by omega)
  have R1_1 : Hid (Row 3 v1 (lo') (hi') (.slice ae m cq) m (flat T)) := R1.out.below st1 (by omega)
  have d1_0 : w.heap.size < v1.heap.size := by omega
  have e1_0 : w.heap.size ≠ v1.heap.size := by omega
  clear st1 R0 R1 hb1
  go_wp2_with fail
  go_ret
  exact ⟨rfl, B1.out⟩
set_option maxRecDepth 100000 in
set_option maxHeartbeats 8000000 in
theorem slbytes_yes (o s ag : Int) (lo hi lo' hi' n m : Nat) (u v : Value) (K : List Lk) (T : List Ed) (w : World) (hK : K.length = n) (hT : T.length = m) (hr : Row 2 w lo hi u n (flat2 K)) (hr' : Row 3 w lo' hi' v m (flat T)) (hh : hi <= w.heap.size) (hh' : hi' <= w.heap.size) (hv : lokB o s ag K T = true) :
    Calls Try.prog 103 #[.agg #[.int .i64 o, .int .i64 s, .int .i64 ag, u, v]] w fun e w' => ∃ rv, e = .returned rv /\ Own 5 1 w w' rv (1 + 3 + 1 + 3 * n + 1 + 5 * m) (byts (lby o s K T)) := by
  have hv0 : 0 <= o /\ o <= 9 /\ 0 <= s /\ s <= 1000000 := by
    unfold lokB at hv
    rw [Bool.and_eq_true, Bool.and_eq_true, Bool.and_eq_true, Bool.and_eq_true, inB_iff, inB_iff] at hv
    omega
  obtain ⟨o0, o1, s0, s1⟩ := hv0
  have oe : o % 256 = o := by omega
  have hn10 : n <= 10 := by
    unfold lokB at hv
    rw [Bool.and_eq_true, Bool.and_eq_true] at hv
    have := lksB_len hv.1.2
    omega
  have hm6 : m <= 6 := by
    unfold lokB at hv
    rw [Bool.and_eq_true] at hv
    have := stsB_len hv.2
    omega
  obtain ⟨iB, hi, hz0, hz1, hz2⟩ := info_parts Try.info5
  have I := Lib.hid (And.intro hi (And.intro hz0 (And.intro hz1 hz2)))
  clear hi hz0 hz1 hz2
  have R0 := Lib.hid hr
  have R1 := Lib.hid hr'
  have HK := Lib.hid hK
  have HT := Lib.hid hT
  have Hv := Lib.hid hv
  obtain ⟨ad, cp, rfl⟩ := hr.slice
  obtain ⟨ae, cq, rfl⟩ := hr'.slice
  clear hr hr' hK hT hv
  go_enter Try.func103, Try.ntmps103
  go_wp2_with fail
  go_at_call 48
  refine (slok_any o s ag lo hi lo' hi' n m _ _ K T _ HK.out HT.out (R0.out.below (B := w.heap.size) (by go_grown) (by omega)) (R1.out.below (B := w.heap.size) (by go_grown) (by omega)) (by first | omega | (simp; omega)) (by first | omega | (simp; omega))).mono ?_
  rw [Hv.out]
  rintro e v1 ⟨rfl, hb1⟩
  have sz1 : w.heap.size + 1 <= v1.heap.size := by have hh := hb1.size; simp at hh; omega
  have st1 : Below w.heap.size w v1 := Below.trans (by go_grown) (hb1.mono (by simp))
  have c1_0 : v1.cell? ⟨w.heap.size, 0, none⟩ = some (.int .i64 o) := by rw [(bcell hb1).1 _ _ (by simp)]; first | (rw [new_at (by simp)]; rfl) | simp
  have c1_1 : v1.cell? ⟨w.heap.size, 1, none⟩ = some (.int .i64 s) := by rw [(bcell hb1).1 _ _ (by simp)]; first | (rw [new_at (by simp)]; rfl) | simp
  have c1_2 : v1.cell? ⟨w.heap.size, 2, none⟩ = some (.int .i64 ag) := by rw [(bcell hb1).1 _ _ (by simp)]; first | (rw [new_at (by simp)]; rfl) | simp
  have c1_3 : v1.cell? ⟨w.heap.size, 3, none⟩ = some (.slice ad n cp) := by rw [(bcell hb1).1 _ _ (by simp)]; first | (rw [new_at (by simp)]; rfl) | simp
  have c1_4 : v1.cell? ⟨w.heap.size, 4, none⟩ = some (.slice ae m cq) := by rw [(bcell hb1).1 _ _ (by simp)]; first | (rw [new_at (by simp)]; rfl) | simp
  have B1 : Hid (Below w.heap.size w v1) := st1
  have R1_0 : Hid (Row 2 v1 (lo) (hi) (.slice ad n cp) n (flat2 K)) := R0.out.below st1 (by omega)
  have R1_1 : Hid (Row 3 v1 (lo') (hi') (.slice ae m cq) m (flat T)) := R1.out.below st1 (by omega)
  have d1_0 : w.heap.size < v1.heap.size := by omega
  have e1_0 : w.heap.size ≠ v1.heap.size := by omega
  clear st1 R0 R1 hb1
  have hwv : w.heap.size < v1.heap.size := by omega
  obtain ⟨ad', cp', e0, _, hu⟩ := R1_0.out.opened
  obtain ⟨ae', cq', e1, _, hv2⟩ := R1_1.out.opened
  obtain ⟨rfl, _, rfl⟩ := Value.slice.inj e0
  obtain ⟨rfl, _, rfl⟩ := Value.slice.inj e1
  have HU := Lib.hid hu
  have HV := Lib.hid hv2
  clear hu hv2 e0 e1
  go_wp2_with fail
  have P0 := Lib.hid c1_0
  have P1 := Lib.hid c1_1
  have P2 := Lib.hid c1_2
  have P3 := Lib.hid c1_3
  have P4 := Lib.hid c1_4
  have we : IntKind.u8.wrap o = o := IntWalk.u8_in o (by omega)
  go_upto_region 3 with fail
  go_cut [3] (fun s3 wx => Hid (Own 5 1 v1 wx s3 (1 + 3) (byts ([o] ++ nb 3 s))))
  case first =>
    refine wp_region_held_drew (S := (fun w' => w'.cell? ⟨w.heap.size, 0, none⟩ = some (.int .i64 o) /\ w'.cell? ⟨w.heap.size, 1, none⟩ = some (.int .i64 s) /\ w'.cell? ⟨w.heap.size, 2, none⟩ = some (.int .i64 ag) /\ w'.cell? ⟨w.heap.size, 3, none⟩ = some (.slice ad n cp) /\ w'.cell? ⟨w.heap.size, 4, none⟩ = some (.slice ae m cq) /\ v1.heap.size <= w'.heap.size /\ Below v1.heap.size v1 w')) (by kernel_rfl) ?_ (fun hHeld => ?_)
    · exact rr5_start c1_0 c1_1 c1_2 c1_3 c1_4
    refine step_read 0 10 rfl rfl (by kernel_rfl) (by kernel_rfl) (by kernel_rfl) (fun _ _ _ h => h) (by rfl) (v := ?_) (fun w hSw => ?_) (by assumption) ?_; rotate_left; (focus ((try dsimp only at hSw); go_simp; first | done | exact rfl)); simp only [List.set]
    refine step_read 1 11 rfl rfl (by kernel_rfl) (by kernel_rfl) (by kernel_rfl) (fun _ _ _ h => h) (by rfl) (v := ?_) (fun w hSw => ?_) (by assumption) ?_; rotate_left; (focus ((try dsimp only at hSw); go_simp; first | done | exact rfl)); simp only [List.set]
    refine step_read 2 12 rfl rfl (by kernel_rfl) (by kernel_rfl) (by kernel_rfl) (fun _ _ _ h => h) (by rfl) (v := ?_) (fun w hSw => ?_) (by assumption) ?_; rotate_left; (focus ((try dsimp only at hSw); go_simp; first | done | exact rfl)); simp only [List.set]
    refine step_read 4 14 rfl rfl (by kernel_rfl) (by kernel_rfl) (by kernel_rfl) (fun _ _ _ h => h) (by rfl) (v := ?_) (fun w hSw => ?_) (by assumption) ?_; rotate_left; (focus ((try dsimp only at hSw); go_simp; first | done | exact rfl)); simp only [List.set]
    refine step_read 5 15 rfl rfl (by kernel_rfl) (by kernel_rfl) (by kernel_rfl) (fun _ _ _ h => h) (by rfl) (v := ?_) (fun w hSw => ?_) (by assumption) ?_; rotate_left; (focus ((try dsimp only at hSw); go_simp; first | done | exact rfl)); simp only [List.set]
    refine wpAnyH_ready (rs := [3, 6]) (by kernel_rfl) (by simp) ?_
    refine AllReadyH.cons rfl (fun Kc hK => ?_) (AllReadyH.cons rfl (fun Kc hK => ?_) (AllReadyH.nil))
    · go_simp
      refine hK.out _ _ ?_ (fun hHeld => ?_)
      · exact rr5_box (by omega) (by omega) (by omega) (by omega) (by omega) (by assumption)
      clear hK Kc
      refine wpAnyH_ready (rs := [6]) (by kernel_rfl) (by simp) ?_
      refine AllReadyH.cons rfl (fun Kc hK => ?_) (AllReadyH.nil)
      go_simp
      go_at_call 130
      refine (wide_any 3 s _ (by decide) (by omega) (by omega)).mono ?_
      rintro e w2 ⟨rv2, rfl, hO2⟩
      obtain ⟨b2, d2, rfl⟩ := hO2.slice
      have hb := hO2.below
      have O2 := Lib.hid hO2
      clear hO2
      refine hK.out _ _ ?_ (fun hHeld => ?_)
      · exact rr5_keep (by omega) (by omega) (by omega) (by omega) (by omega) hb (by assumption)
      clear hK Kc
      refine wpAnyH_ready (rs := [7]) (by kernel_rfl) (by simp) ?_
      refine AllReadyH.cons rfl (fun Kc hK => ?_) (AllReadyH.nil)
      go_simp
      go_at_call 129
      refine (join_any _ _ 1 _ _ 3 _ _ [o] (nb 3 s) _ (by first | exact brow_box_then O2.out | exact brow_box_then' O2.out) (by have := O2.out.size; simp at this; omega) (O2.out.toBRow (by decide)) (Nat.le_refl _)).mono ?_
      rintro e w3 ⟨rv3, rfl, hO3⟩
      obtain ⟨b3, d3, rfl⟩ := hO3.slice
      have hb := hO3.below
      have O3 := Lib.hid (hO3.base (rr5_out (by assumption)).2)
      clear hO3
      refine hK.out _ _ ?_ (fun hHeld => ?_)
      · exact rr5_keep (by omega) (by omega) (by omega) (by omega) (by omega) hb (by assumption)
      clear hK Kc
      refine step_read 8 3 rfl rfl (by kernel_rfl) (by kernel_rfl) (by kernel_rfl) (fun _ _ _ h => h) (by rfl) (v := ?_) (fun w hSw => ?_) (by assumption) ?_; rotate_left; (focus ((try dsimp only at hSw); go_simp; first | done | exact rfl)); simp only [List.set]
      refine wpAnyH_done (by kernel_rfl) ?_ _
      go_wp2_with fail
      go_meet
      exact O3
    · go_simp
      go_at_call 130
      refine (wide_any 3 s _ (by decide) (by omega) (by omega)).mono ?_
      rintro e w1 ⟨rv1, rfl, hO1⟩
      obtain ⟨b1, d1, rfl⟩ := hO1.slice
      have hb := hO1.below
      have O1 := Lib.hid hO1
      clear hO1
      refine hK.out _ _ ?_ (fun hHeld => ?_)
      · exact rr5_keep (by omega) (by omega) (by omega) (by omega) (by omega) hb (by assumption)
      clear hK Kc
      refine wpAnyH_ready (rs := [3]) (by kernel_rfl) (by simp) ?_
      refine AllReadyH.cons rfl (fun Kc hK => ?_) (AllReadyH.nil)
      go_simp
      refine hK.out _ _ ?_ (fun hHeld => ?_)
      · exact rr5_box (by omega) (by omega) (by omega) (by omega) (by omega) (by assumption)
      clear hK Kc
      refine wpAnyH_ready (rs := [7]) (by kernel_rfl) (by simp) ?_
      refine AllReadyH.cons rfl (fun Kc hK => ?_) (AllReadyH.nil)
      go_simp
      go_at_call 129
      refine (join_any _ _ 1 _ _ 3 _ _ [o] (nb 3 s) _ (brow_box _ _) (by simp) ((O1.out.toBRow (by decide)).below ((Below.refl _ _).alloc (Nat.le_refl _) _) (Nat.le_refl _)) (by simp)).mono ?_
      rintro e w3 ⟨rv3, rfl, hO3⟩
      obtain ⟨b3, d3, rfl⟩ := hO3.slice
      have hb := hO3.below
      have O3 := Lib.hid (hO3.base (rr5_out (by assumption)).2)
      clear hO3
      refine hK.out _ _ ?_ (fun hHeld => ?_)
      · exact rr5_keep (by omega) (by omega) (by omega) (by omega) (by omega) hb (by assumption)
      clear hK Kc
      refine step_read 8 3 rfl rfl (by kernel_rfl) (by kernel_rfl) (by kernel_rfl) (fun _ _ _ h => h) (by rfl) (v := ?_) (fun w hSw => ?_) (by assumption) ?_; rotate_left; (focus ((try dsimp only at hSw); go_simp; first | done | exact rfl)); simp only [List.set]
      refine wpAnyH_done (by kernel_rfl) ?_ _
      go_wp2_with fail
      go_meet
      exact O3
  case rest =>
    obtain ⟨b3, d3, rfl⟩ := hcut.out.slice
    have hbs := hcut.out.size
    have HC := hcut
    clear c1_0 c1_1 c1_2 c1_3 c1_4 hcut
    have p0 : wc.cell? ⟨w.heap.size, 0, none⟩ = some (.int .i64 o) := by rw [HC.out.below.cell (p := ⟨w.heap.size, 0, none⟩) hwv]; exact P0.out
    have p1 : wc.cell? ⟨w.heap.size, 1, none⟩ = some (.int .i64 s) := by rw [HC.out.below.cell (p := ⟨w.heap.size, 1, none⟩) hwv]; exact P1.out
    have p2 : wc.cell? ⟨w.heap.size, 2, none⟩ = some (.int .i64 ag) := by rw [HC.out.below.cell (p := ⟨w.heap.size, 2, none⟩) hwv]; exact P2.out
    have p3 : wc.cell? ⟨w.heap.size, 3, none⟩ = some (.slice ad n cp) := by rw [HC.out.below.cell (p := ⟨w.heap.size, 3, none⟩) hwv]; exact P3.out
    have p4 : wc.cell? ⟨w.heap.size, 4, none⟩ = some (.slice ae m cq) := by rw [HC.out.below.cell (p := ⟨w.heap.size, 4, none⟩) hwv]; exact P4.out
    have hww : w.heap.size < wc.heap.size := by omega
    go_wp2_with (at_builtin; refine wpList_append_lies _ rfl _ _ 22 rfl v1.heap.size 5 iB (.int .u8 0) 1 1 Try.underlying22 I.out.1 I.out.2.1 I.out.2.2.1 I.out.2.2.2 rfl (by decide) _ (1 + 3) (byts ([o] ++ nb 3 s)) rfl ((HC.out.alloc _).row) ⟨wc.heap.size, 0, none⟩ 1 1 [.int .u8 (n : Int)] rfl rfl ?d0 (byt_one _) (by decide) ?d1 ?d2 ?d3 _ rfl ?_)
    try case d0 => exact fun j u hj => cell_one_new _ _ 5 rfl j u hj
    case d1 => unfold maxLen; omega
    case d2 => omega
    case d3 => first | omega | (simp <;> omega)
    intro g4 cap4 w4 hown4 hgrow4 hat4 hlt4
    have O4 : Hid (Own 5 1 v1 w4 (.slice (some ⟨g4, 0, none⟩) (1 + 3 + 1) cap4) (1 + 3 + 1) (byts ([o] ++ nb 3 s ++ [(n : Int)]))) := by
      have hh := (HC.out.alloc _).app hgrow4 hown4
      rw [byts_snoc] at hh
      exact Lib.hid hh
    clear hown4 hgrow4 hat4 hlt4 HC p0 p1 p2 p3 p4 hww hbs
    have hbs := O4.out.size
    have p0 : w4.cell? ⟨w.heap.size, 0, none⟩ = some (.int .i64 o) := by rw [O4.out.below.cell (p := ⟨w.heap.size, 0, none⟩) hwv]; exact P0.out
    have p1 : w4.cell? ⟨w.heap.size, 1, none⟩ = some (.int .i64 s) := by rw [O4.out.below.cell (p := ⟨w.heap.size, 1, none⟩) hwv]; exact P1.out
    have p2 : w4.cell? ⟨w.heap.size, 2, none⟩ = some (.int .i64 ag) := by rw [O4.out.below.cell (p := ⟨w.heap.size, 2, none⟩) hwv]; exact P2.out
    have p3 : w4.cell? ⟨w.heap.size, 3, none⟩ = some (.slice ad n cp) := by rw [O4.out.below.cell (p := ⟨w.heap.size, 3, none⟩) hwv]; exact P3.out
    have p4 : w4.cell? ⟨w.heap.size, 4, none⟩ = some (.slice ae m cq) := by rw [O4.out.below.cell (p := ⟨w.heap.size, 4, none⟩) hwv]; exact P4.out
    have hww : w.heap.size < w4.heap.size := by omega
    go_wp2
    go_loopw [3, 4] (fun b i wr => ∃ k : Nat, k <= n /\ i = .int .i64 (k : Int) /\ Hid (Own 5 1 v1 wr b (1 + 3 + 1 + 3 * k) (byts ([o] ++ nb 3 s ++ [(n : Int)] ++ kbs (K.take k))))) (fun _ i _ => n - (intOf i).toNat)
    case atStart => exact ⟨0, Nat.zero_le _, rfl, by rw [List.take_zero]; show Hid (Own _ _ _ _ _ _ (byts ([o] ++ nb 3 s ++ [(n : Int)] ++ []))); rw [List.append_nil]; exact O4⟩
    case round =>
      clear O4 p0 p1 p2 p3 p4 hww hbs
      obtain ⟨k, hk, rfl, hO⟩ := hrel
      obtain ⟨ba, bc, rfl⟩ := hO.out.slice
      have hbs := hO.out.size
      have p0 : wr.cell? ⟨w.heap.size, 0, none⟩ = some (.int .i64 o) := by rw [hO.out.below.cell (p := ⟨w.heap.size, 0, none⟩) hwv]; exact P0.out
      have p1 : wr.cell? ⟨w.heap.size, 1, none⟩ = some (.int .i64 s) := by rw [hO.out.below.cell (p := ⟨w.heap.size, 1, none⟩) hwv]; exact P1.out
      have p2 : wr.cell? ⟨w.heap.size, 2, none⟩ = some (.int .i64 ag) := by rw [hO.out.below.cell (p := ⟨w.heap.size, 2, none⟩) hwv]; exact P2.out
      have p3 : wr.cell? ⟨w.heap.size, 3, none⟩ = some (.slice ad n cp) := by rw [hO.out.below.cell (p := ⟨w.heap.size, 3, none⟩) hwv]; exact P3.out
      have p4 : wr.cell? ⟨w.heap.size, 4, none⟩ = some (.slice ae m cq) := by rw [hO.out.below.cell (p := ⟨w.heap.size, 4, none⟩) hwv]; exact P4.out
      have hww : w.heap.size < wr.heap.size := by omega
      by_cases hlt : k < n
      · obtain ⟨r, hr⟩ : ∃ r, K[k]? = some r := ⟨K[k]'(by rw [HK.out]; exact hlt), List.getElem?_eq_getElem _⟩
        obtain ⟨a, c⟩ := r
        obtain ⟨r0, r1⟩ := flat2_at K k _ hr
        obtain ⟨q, rfl, hq, H⟩ := HU.out (by omega)
        have HL := Lib.hid hr
        have hget : 0 <= a /\ a <= 9 /\ 1 <= c /\ c <= 1000 := by
          have hv := Hv.out
          unfold lokB at hv
          rw [Bool.and_eq_true, Bool.and_eq_true] at hv
          have := lksB_get hv.1.2 hr
          exact ⟨this.1, this.2.1, this.2.2.1, this.2.2.2.1⟩
        obtain ⟨ga, gb, gc, gd⟩ := hget
        have z0 : wr.cell? ⟨q, k * 2, none⟩ = some (.int .i64 a) := by rw [hO.out.below.cell (p := ⟨q, k * 2, none⟩) (by show q < v1.heap.size; omega)]; exact H _ _ r0
        have z1 : wr.cell? ⟨q, k * 2 + 1, none⟩ = some (.int .i64 c) := by rw [hO.out.below.cell (p := ⟨q, k * 2 + 1, none⟩) (by show q < v1.heap.size; omega)]; exact H _ _ r1
        have hqW : q < v1.heap.size := by omega
        have hqw : q < wr.heap.size := by omega
        have q0 : (0 : Int) <= (k : Int) := by omega
        have q1 : (k : Int) < (n : Int) := by omega
        have ae8 : IntKind.u8.wrap a = a := IntWalk.u8_in a (by omega)
        have LT0 := Lib.hid (fun (j : Nat) (hj : (Value.slice ba (1 + 3 + 1 + 3 * k) bc).ownBlock = some j) => (hO.out.row.lt j hj).2)
        clear r0 r1 hr H p0 p1 p2 p4
        go_wp2_with fail
        have hstl := rs3_start p3 z0 z1 hO.out.below
        refine wp_region_held_drew (S := (fun w' => w'.cell? ⟨w.heap.size, 3, none⟩ = some (.slice (some ⟨q, 0, none⟩) n cp) /\ w'.cell? ⟨q, k * 2, none⟩ = some (.int .i64 a) /\ w'.cell? ⟨q, k * 2 + 1, none⟩ = some (.int .i64 c) /\ v1.heap.size <= w'.heap.size /\ Below v1.heap.size v1 w')) (by kernel_rfl) ?_ (fun hHeld => ?_)
        · exact hstl
        obtain ⟨wdl, hwdl⟩ : ∃ x, x = wr.drew := ⟨_, rfl⟩
        rw [<- hwdl]
        rw [<- hwdl] at hHeld
        have szdl : wr.heap.size <= wdl.heap.size := by rw [hwdl]; exact Nat.le_refl _
        have ul0_32 := Lib.hid (hO.out.drew)
        rw [<- hwdl] at ul0_32
        clear hwdl
        refine step_read 0 32 rfl rfl (by kernel_rfl) (by kernel_rfl) (by kernel_rfl) (fun _ _ _ h => h) (by rfl) (v := ?_) (fun w hSw => ?_) (by assumption) ?_; rotate_left; (focus ((try dsimp only at hSw); go_simp; first | done | exact rfl)); simp only [List.set]
        refine step_read 1 33 rfl rfl (by kernel_rfl) (by kernel_rfl) (by kernel_rfl) (fun _ _ _ h => h) (by rfl) (v := ?_) (fun w hSw => ?_) (by assumption) ?_; rotate_left; (focus ((try dsimp only at hSw); go_simp; first | done | exact rfl)); simp only [List.set]
        refine step_read 2 34 rfl rfl (by kernel_rfl) (by kernel_rfl) (by kernel_rfl) (fun _ _ _ h => h) (by rfl) (v := ?_) (fun w hSw => ?_) (by assumption) ?_; rotate_left; (focus ((try dsimp only at hSw); go_simp; first | done | exact rfl)); simp only [List.set]
        refine step_read 3 35 rfl rfl (by kernel_rfl) (by kernel_rfl) (by kernel_rfl) (fun _ _ _ h => h) (by rfl) (v := ?_) (fun w hSw => ?_) (by assumption) ?_; rotate_left; (focus ((try dsimp only at hSw); go_simp; first | done | exact rfl)); simp only [List.set]
        refine step_read 4 36 rfl rfl (by kernel_rfl) (by kernel_rfl) (by kernel_rfl) (fun _ _ _ h => h) (by rfl) (v := ?_) (fun w hSw => ?_) (by assumption) ?_; rotate_left; (focus ((try dsimp only at hSw); go_simp; first | done | exact rfl)); simp only [List.set]
        refine step_read 5 37 rfl rfl (by kernel_rfl) (by kernel_rfl) (by kernel_rfl) (fun _ _ _ h => h) (by rfl) (v := ?_) (fun w hSw => ?_) (by assumption) ?_; rotate_left; (focus ((try dsimp only at hSw); go_simp; first | done | exact rfl)); simp only [List.set]
        refine step_read 6 38 rfl rfl (by kernel_rfl) (by kernel_rfl) (by kernel_rfl) (fun _ _ _ h => h) (by rfl) (v := ?_) (fun w hSw => ?_) (by assumption) ?_; rotate_left; (focus ((try dsimp only at hSw); go_simp; first | done | exact rfl)); simp only [List.set]
        refine step_read 7 39 rfl rfl (by kernel_rfl) (by kernel_rfl) (by kernel_rfl) (fun _ _ _ h => h) (by rfl) (v := ?_) (fun w hSw => ?_) (by assumption) ?_; rotate_left; (focus ((try dsimp only at hSw); go_simp; first | done | exact rfl)); simp only [List.set]
        refine step_read 10 42 rfl rfl (by kernel_rfl) (by kernel_rfl) (by kernel_rfl) (fun _ _ _ h => h) (by rfl) (v := ?_) (fun w hSw => ?_) (by assumption) ?_; rotate_left; (focus ((try dsimp only at hSw); go_simp; first | done | exact rfl)); simp only [List.set]
        refine step_read 11 43 rfl rfl (by kernel_rfl) (by kernel_rfl) (by kernel_rfl) (fun _ _ _ h => h) (by rfl) (v := ?_) (fun w hSw => ?_) (by assumption) ?_; rotate_left; (focus ((try dsimp only at hSw); go_simp; first | done | exact rfl)); simp only [List.set]
        refine step_read 12 44 rfl rfl (by kernel_rfl) (by kernel_rfl) (by kernel_rfl) (fun _ _ _ h => h) (by rfl) (v := ?_) (fun w hSw => ?_) (by assumption) ?_; rotate_left; (focus ((try dsimp only at hSw); go_simp; first | done | exact rfl)); simp only [List.set]
        refine step_read 13 45 rfl rfl (by kernel_rfl) (by kernel_rfl) (by kernel_rfl) (fun _ _ _ h => h) (by rfl) (v := ?_) (fun w hSw => ?_) (by assumption) ?_; rotate_left; (focus ((try dsimp only at hSw); go_simp; first | done | exact rfl)); simp only [List.set]
        refine step_read 14 46 rfl rfl (by kernel_rfl) (by kernel_rfl) (by kernel_rfl) (fun _ _ _ h => h) (by rfl) (v := ?_) (fun w hSw => ?_) (by assumption) ?_; rotate_left; (focus ((try dsimp only at hSw); go_simp; first | done | exact rfl)); simp only [List.set]
        refine step_read 15 47 rfl rfl (by kernel_rfl) (by kernel_rfl) (by kernel_rfl) (fun _ _ _ h => h) (by rfl) (v := ?_) (fun w hSw => ?_) (by assumption) ?_; rotate_left; (focus ((try dsimp only at hSw); go_simp; first | done | exact rfl)); simp only [List.set]
        refine wpAnyH_ready (rs := [8]) (by kernel_rfl) (by simp) ?_
        refine AllReadyH.cons rfl (fun Kc hK => ?_) (AllReadyH.nil)
        go_simp
        obtain ⟨wl1, hwl1⟩ : ∃ x, x = wdl.alloc (.cells #[.int .u8 (a)] 5) := ⟨_, rfl⟩
        rw [<- hwl1]
        have hb1 := bbox_below hwl1
        have szl1 := box_size hwl1
        have ul1_32 := Lib.hid (ul0_32.out.grow hb1)
        clear ul0_32
        have bl1_f := Lib.hid (box_cell hwl1)
        clear hwl1
        refine hK.out _ _ ?_ (fun hHeld => ?_)
        · exact rs3_keep (by omega) (by omega) (by omega) (hb1.mono (by omega)) (by assumption)
        clear hK Kc
        refine wpAnyH_ready (rs := [9]) (by kernel_rfl) (by simp) ?_
        refine AllReadyH.cons rfl (fun Kc hK => ?_) (AllReadyH.nil)
        refine step_append_lies _ rfl _ _ 22 rfl v1.heap.size 5 iB (.int .u8 0) 1 1 Try.underlying22 I.out.1 I.out.2.1 I.out.2.2.1 I.out.2.2.2 rfl (by decide) _ (1 + 3 + 1 + 3 * k) (byts ([o] ++ nb 3 s ++ [(n : Int)] ++ kbs (K.take k))) rfl ul1_32.out.row ⟨wdl.heap.size, 0, none⟩ 1 1 [.int .u8 (a)] rfl rfl (one_news bl1_f.out) (byt_one _) (by decide) (by unfold maxLen; omega) (by omega) (by omega) _ rfl ?_
        intro gl2 dl2 wl2 hownl2 hgl2 hatl2 hltl2
        have LTl2 : ∀ kk, (Value.slice ba (1 + 3 + 1 + 3 * k) bc).ownBlock = some kk -> v1.heap.size <= kk /\ kk < wl1.heap.size := fun kk hkk => ul1_32.out.row.lt kk hkk
        have hbl2 : Below v1.heap.size wl1 wl2 := (Below.refl _ _).grown hgl2 (by omega) (fun kk hkk => (LTl2 kk hkk).1)
        have szl2 : wl1.heap.size <= wl2.heap.size := hgl2.size
        have hOl2 := ul1_32.out.app hgl2 hownl2
        rw [byts_snoc] at hOl2
        have ol2_f := Lib.hid hOl2
        clear hOl2 hownl2 hgl2 hatl2 hltl2 LTl2 ul1_32 bl1_f LT0
        go_simp
        refine hK.out _ _ ?_ (fun hHeld => ?_)
        · exact rs3_keep (by omega) (by omega) (by omega) (hbl2.mono (by omega)) (by assumption)
        clear hK Kc
        refine wpAnyH_ready (rs := [16]) (by kernel_rfl) (by simp) ?_
        refine AllReadyH.cons rfl (fun Kc hK => ?_) (AllReadyH.nil)
        go_simp
        go_at_call 130
        refine (wide_any 2 (c) _ (by decide) (by omega) (by omega)).mono ?_
        rintro e wl3 ⟨rvl3, rfl, hOl3⟩
        obtain ⟨bl3, dl3, rfl⟩ := hOl3.slice
        have hbl3 := hOl3.below
        have szl3 : wl2.heap.size <= wl3.heap.size := hbl3.size
        have ul3_41 := Lib.hid (ol2_f.out.grow hbl3)
        clear ol2_f
        have ol3_f := Lib.hid (hOl3.toBRow (by decide))
        clear hOl3
        refine hK.out _ _ ?_ (fun hHeld => ?_)
        · exact rs3_keep (by omega) (by omega) (by omega) (hbl3.mono (by omega)) (by assumption)
        clear hK Kc
        refine wpAnyH_ready (rs := [17]) (by kernel_rfl) (by simp) ?_
        refine AllReadyH.cons rfl (fun Kc hK => ?_) (AllReadyH.nil)
        go_simp
        go_at_call 129
        refine (join_any _ _ (1 + 3 + 1 + 3 * k + 1) _ _ (2) _ _ ([o] ++ nb 3 s ++ [(n : Int)] ++ kbs (K.take k) ++ [a]) (nb 2 (c)) _ (ul3_41.out.toBRow (by omega)) (by omega) ol3_f.out (by omega)).mono ?_
        rintro e wl4 ⟨rvl4, rfl, hOl4⟩
        obtain ⟨bl4, dl4, rfl⟩ := hOl4.slice
        have hbl4 := hOl4.below
        have szl4 : wl3.heap.size <= wl4.heap.size := hbl4.size
        clear ul3_41 ol3_f
        have ltl4_f := Lib.hid (fun (kk : Nat) (hkk : (Value.slice bl4 (1 + 3 + 1 + 3 * k + 1 + 2) dl4).ownBlock = some kk) => (hOl4.row.lt kk hkk).2)
        have ol4_f := Lib.hid (hOl4.base (rs3_out (by assumption)).2)
        clear hOl4
        refine hK.out _ _ ?_ (fun hHeld => ?_)
        · exact rs3_keep (by omega) (by omega) (by omega) (hbl4.mono (by omega)) (by assumption)
        clear hK Kc
        refine step_read 18 3 rfl rfl (by kernel_rfl) (by kernel_rfl) (by kernel_rfl) (fun _ _ _ h => h) (by rfl) (v := ?_) (fun w hSw => ?_) (by assumption) ?_; rotate_left; (focus ((try dsimp only at hSw); go_simp; first | done | exact rfl)); simp only [List.set]
        refine wpAnyH_done (by kernel_rfl) ?_ _
        go_wp2_with fail
        have HE : Hid (Own 5 1 v1 wl4 (.slice bl4 (1 + 3 + 1 + 3 * k + 1 + 2) dl4) (1 + 3 + 1 + 3 * (k + 1)) (byts ([o] ++ nb 3 s ++ [(n : Int)] ++ kbs (K.take (k + 1))))) := by
          have hh := ol4_f.out
          rw [<- nb1' ga (by omega), List.append_assoc, List.append_assoc ([o] ++ nb 3 s ++ [(n : Int)])] at hh
          rw [kbs_take HL.out]
          have e : 1 + 3 + 1 + 3 * (k + 1) = 1 + 3 + 1 + 3 * k + 1 + 2 := by omega
          rw [e]
          exact Lib.hid hh
        go_roundw
        case rel => exact ⟨k + 1, by omega, by go_num, HE⟩
        case measure => simp [intOf]; omega
      · have hge : ¬ ((k : Int) < (n : Int)) := by omega
        have ek : k = n := by omega
        rw [ek] at hO
        rw [ek]
        have e0 : K.take n = K := List.take_of_length_le (by rw [HK.out]; omega)
        rw [e0] at hO
        clear e0 hlt hge ek
        have hge : ¬ ((n : Int) < (n : Int)) := by omega
        go_wp2_with (at_builtin; refine wpList_append_lies _ rfl _ _ 22 rfl v1.heap.size 5 iB (.int .u8 0) 1 1 Try.underlying22 I.out.1 I.out.2.1 I.out.2.2.1 I.out.2.2.2 rfl (by decide) _ (1 + 3 + 1 + 3 * n) (byts ([o] ++ nb 3 s ++ [(n : Int)] ++ kbs K)) rfl ((hO.out.alloc _).row) ⟨wr.heap.size, 0, none⟩ 1 1 [.int .u8 (m : Int)] rfl rfl ?d0m (byt_one _) (by decide) ?d1m ?d2m ?d3m _ rfl ?_)
        try case d0m => exact fun j u hj => cell_one_new _ _ 5 rfl j u hj
        case d1m => unfold maxLen; omega
        case d2m => omega
        case d3m => first | omega | (simp <;> omega)
        intro g5 cap5 w5 hown5 hgrow5 hat5 hlt5
        have O5 : Hid (Own 5 1 v1 w5 (.slice (some ⟨g5, 0, none⟩) (1 + 3 + 1 + 3 * n + 1) cap5) (1 + 3 + 1 + 3 * n + 1) (byts ([o] ++ nb 3 s ++ [(n : Int)] ++ kbs K ++ [(m : Int)]))) := by
          have hh := (hO.out.alloc _).app hgrow5 hown5
          rw [byts_snoc] at hh
          exact Lib.hid hh
        clear hown5 hgrow5 hat5 hlt5 hO p0 p1 p2 p3 p4 hww hbs
        have hbs := O5.out.size
        have p0 : w5.cell? ⟨w.heap.size, 0, none⟩ = some (.int .i64 o) := by rw [O5.out.below.cell (p := ⟨w.heap.size, 0, none⟩) hwv]; exact P0.out
        have p1 : w5.cell? ⟨w.heap.size, 1, none⟩ = some (.int .i64 s) := by rw [O5.out.below.cell (p := ⟨w.heap.size, 1, none⟩) hwv]; exact P1.out
        have p2 : w5.cell? ⟨w.heap.size, 2, none⟩ = some (.int .i64 ag) := by rw [O5.out.below.cell (p := ⟨w.heap.size, 2, none⟩) hwv]; exact P2.out
        have p3 : w5.cell? ⟨w.heap.size, 3, none⟩ = some (.slice ad n cp) := by rw [O5.out.below.cell (p := ⟨w.heap.size, 3, none⟩) hwv]; exact P3.out
        have p4 : w5.cell? ⟨w.heap.size, 4, none⟩ = some (.slice ae m cq) := by rw [O5.out.below.cell (p := ⟨w.heap.size, 4, none⟩) hwv]; exact P4.out
        have hww : w.heap.size < w5.heap.size := by omega
        go_wp2
        go_loopw [3, 5] (fun b i wr => ∃ k : Nat, k <= m /\ i = .int .i64 (k : Int) /\ Hid (Own 5 1 v1 wr b (1 + 3 + 1 + 3 * n + 1 + 5 * k) (byts ([o] ++ nb 3 s ++ [(n : Int)] ++ kbs K ++ [(m : Int)] ++ tbs (T.take k))))) (fun _ i _ => m - (intOf i).toNat)
        case atStart => exact ⟨0, Nat.zero_le _, rfl, by rw [List.take_zero]; show Hid (Own _ _ _ _ _ _ (byts ([o] ++ nb 3 s ++ [(n : Int)] ++ kbs K ++ [(m : Int)] ++ []))); rw [List.append_nil]; exact O5⟩
        case round =>
          clear O5 p0 p1 p2 p3 p4 hww hbs hge
          obtain ⟨k, hk, rfl, hO⟩ := hrel
          obtain ⟨ba, bc, rfl⟩ := hO.out.slice
          have hbs := hO.out.size
          have p0 : wr.cell? ⟨w.heap.size, 0, none⟩ = some (.int .i64 o) := by rw [hO.out.below.cell (p := ⟨w.heap.size, 0, none⟩) hwv]; exact P0.out
          have p1 : wr.cell? ⟨w.heap.size, 1, none⟩ = some (.int .i64 s) := by rw [hO.out.below.cell (p := ⟨w.heap.size, 1, none⟩) hwv]; exact P1.out
          have p2 : wr.cell? ⟨w.heap.size, 2, none⟩ = some (.int .i64 ag) := by rw [hO.out.below.cell (p := ⟨w.heap.size, 2, none⟩) hwv]; exact P2.out
          have p3 : wr.cell? ⟨w.heap.size, 3, none⟩ = some (.slice ad n cp) := by rw [hO.out.below.cell (p := ⟨w.heap.size, 3, none⟩) hwv]; exact P3.out
          have p4 : wr.cell? ⟨w.heap.size, 4, none⟩ = some (.slice ae m cq) := by rw [hO.out.below.cell (p := ⟨w.heap.size, 4, none⟩) hwv]; exact P4.out
          have hww : w.heap.size < wr.heap.size := by omega
          by_cases hlt : k < m
          · obtain ⟨r, hr⟩ : ∃ r, T[k]? = some r := ⟨T[k]'(by rw [HT.out]; exact hlt), List.getElem?_eq_getElem _⟩
            obtain ⟨a, b, c⟩ := r
            obtain ⟨r0, r1, r2⟩ := flat_at T k _ hr
            obtain ⟨q, rfl, hq, H⟩ := HV.out (by omega)
            have HL := Lib.hid hr
            have hget : 0 <= a /\ a <= 65535 /\ 0 <= b /\ b <= 16 /\ 1 <= c /\ c <= 1000 := by
              have hv := Hv.out
              unfold lokB at hv
              rw [Bool.and_eq_true] at hv
              exact stsB_get hv.2 hr
            obtain ⟨ga, gb, gc, gd, ge, gf⟩ := hget
            have z0 : wr.cell? ⟨q, k * 3, none⟩ = some (.int .i64 a) := by rw [hO.out.below.cell (p := ⟨q, k * 3, none⟩) (by show q < v1.heap.size; omega)]; exact H _ _ r0
            have z1 : wr.cell? ⟨q, k * 3 + 1, none⟩ = some (.int .i64 b) := by rw [hO.out.below.cell (p := ⟨q, k * 3 + 1, none⟩) (by show q < v1.heap.size; omega)]; exact H _ _ r1
            have z2 : wr.cell? ⟨q, k * 3 + 2, none⟩ = some (.int .i64 c) := by rw [hO.out.below.cell (p := ⟨q, k * 3 + 2, none⟩) (by show q < v1.heap.size; omega)]; exact H _ _ r2
            have hqW : q < v1.heap.size := by omega
            have hqw : q < wr.heap.size := by omega
            have q0 : (0 : Int) <= (k : Int) := by omega
            have q1 : (k : Int) < (m : Int) := by omega
            have ae8 : IntKind.u8.wrap b = b := IntWalk.u8_in b (by omega)
            have LT0 := Lib.hid (fun (j : Nat) (hj : (Value.slice ba (1 + 3 + 1 + 3 * n + 1 + 5 * k) bc).ownBlock = some j) => (hO.out.row.lt j hj).2)
            clear r0 r1 r2 hr H p0 p1 p2 p3
            go_wp2_with fail
            obtain ⟨wb, hwb⟩ : ∃ x, x = wr.alloc (.cells #[.int .i64 a, .int .i64 b, .int .i64 c] 79) := ⟨_, rfl⟩
            rw [<- hwb]
            have szb := box_size hwb
            have x0 : wb.cell? ⟨wr.heap.size, 0, none⟩ = some (.int .i64 a) := by rw [hwb, new_at rfl]; rfl
            have x1 : wb.cell? ⟨wr.heap.size, 1, none⟩ = some (.int .i64 b) := by rw [hwb, new_at rfl]; rfl
            have x2 : wb.cell? ⟨wr.heap.size, 2, none⟩ = some (.int .i64 c) := by rw [hwb, new_at rfl]; rfl
            have hOb := Lib.hid (hO.out.grow (bbox_below hwb))
            have HWb : Hid (Below v1.heap.size v1 wb) := Lib.hid hOb.out.below
            clear hwb p4 z0 z1 z2
            have hstt := rs3_start x0 x1 x2 (Below.refl _ _)
            refine wp_region_held_drew (S := (fun w' => w'.cell? ⟨wr.heap.size, 0, none⟩ = some (.int .i64 a) /\ w'.cell? ⟨wr.heap.size, 1, none⟩ = some (.int .i64 b) /\ w'.cell? ⟨wr.heap.size, 2, none⟩ = some (.int .i64 c) /\ wb.heap.size <= w'.heap.size /\ Below wb.heap.size wb w')) (by kernel_rfl) ?_ (fun hHeld => ?_)
            · exact hstt
            obtain ⟨wdt, hwdt⟩ : ∃ x, x = wb.drew := ⟨_, rfl⟩
            rw [<- hwdt]
            rw [<- hwdt] at hHeld
            have szdt : wb.heap.size <= wdt.heap.size := by rw [hwdt]; exact Nat.le_refl _
            have ut0_69 := Lib.hid (hOb.out.drew)
            rw [<- hwdt] at ut0_69
            clear hwdt
            refine step_read 0 69 rfl rfl (by kernel_rfl) (by kernel_rfl) (by kernel_rfl) (fun _ _ _ h => h) (by rfl) (v := ?_) (fun w hSw => ?_) (by assumption) ?_; rotate_left; (focus ((try dsimp only at hSw); go_simp; first | done | exact rfl)); simp only [List.set]
            refine step_read 1 70 rfl rfl (by kernel_rfl) (by kernel_rfl) (by kernel_rfl) (fun _ _ _ h => h) (by rfl) (v := ?_) (fun w hSw => ?_) (by assumption) ?_; rotate_left; (focus ((try dsimp only at hSw); go_simp; first | done | exact rfl)); simp only [List.set]
            refine step_read 2 71 rfl rfl (by kernel_rfl) (by kernel_rfl) (by kernel_rfl) (fun _ _ _ h => h) (by rfl) (v := ?_) (fun w hSw => ?_) (by assumption) ?_; rotate_left; (focus ((try dsimp only at hSw); go_simp; first | done | exact rfl)); simp only [List.set]
            refine step_read 3 72 rfl rfl (by kernel_rfl) (by kernel_rfl) (by kernel_rfl) (fun _ _ _ h => h) (by rfl) (v := ?_) (fun w hSw => ?_) (by assumption) ?_; rotate_left; (focus ((try dsimp only at hSw); go_simp; first | done | exact rfl)); simp only [List.set]
            refine step_read 6 75 rfl rfl (by kernel_rfl) (by kernel_rfl) (by kernel_rfl) (fun _ _ _ h => h) (by rfl) (v := ?_) (fun w hSw => ?_) (by assumption) ?_; rotate_left; (focus ((try dsimp only at hSw); go_simp; first | done | exact rfl)); simp only [List.set]
            refine step_read 7 76 rfl rfl (by kernel_rfl) (by kernel_rfl) (by kernel_rfl) (fun _ _ _ h => h) (by rfl) (v := ?_) (fun w hSw => ?_) (by assumption) ?_; rotate_left; (focus ((try dsimp only at hSw); go_simp; first | done | exact rfl)); simp only [List.set]
            refine step_read 8 77 rfl rfl (by kernel_rfl) (by kernel_rfl) (by kernel_rfl) (fun _ _ _ h => h) (by rfl) (v := ?_) (fun w hSw => ?_) (by assumption) ?_; rotate_left; (focus ((try dsimp only at hSw); go_simp; first | done | exact rfl)); simp only [List.set]
            refine step_read 9 78 rfl rfl (by kernel_rfl) (by kernel_rfl) (by kernel_rfl) (fun _ _ _ h => h) (by rfl) (v := ?_) (fun w hSw => ?_) (by assumption) ?_; rotate_left; (focus ((try dsimp only at hSw); go_simp; first | done | exact rfl)); simp only [List.set]
            refine step_read 12 81 rfl rfl (by kernel_rfl) (by kernel_rfl) (by kernel_rfl) (fun _ _ _ h => h) (by rfl) (v := ?_) (fun w hSw => ?_) (by assumption) ?_; rotate_left; (focus ((try dsimp only at hSw); go_simp; first | done | exact rfl)); simp only [List.set]
            refine step_read 13 82 rfl rfl (by kernel_rfl) (by kernel_rfl) (by kernel_rfl) (fun _ _ _ h => h) (by rfl) (v := ?_) (fun w hSw => ?_) (by assumption) ?_; rotate_left; (focus ((try dsimp only at hSw); go_simp; first | done | exact rfl)); simp only [List.set]
            refine wpAnyH_ready (rs := [4, 10]) (by kernel_rfl) (by simp) ?_
            refine AllReadyH.cons rfl (fun Kc hK => ?_) (AllReadyH.cons rfl (fun Kc hK => ?_) (AllReadyH.nil))
            · go_simp
              go_at_call 130
              refine (wide_any 2 (a) _ (by decide) (by omega) (by omega)).mono ?_
              rintro e wt1 ⟨rvt1, rfl, hOt1⟩
              obtain ⟨bt1, dt1, rfl⟩ := hOt1.slice
              have hbt1 := hOt1.below
              have szt1 : wdt.heap.size <= wt1.heap.size := hbt1.size
              have ut1_69 := Lib.hid (ut0_69.out.grow hbt1)
              clear ut0_69
              have ot1_f := Lib.hid (hOt1.toBRow (by decide))
              clear hOt1
              refine hK.out _ _ ?_ (fun hHeld => ?_)
              · exact rs3_keep (by omega) (by omega) (by omega) (hbt1.mono (by omega)) (by assumption)
              clear hK Kc
              refine wpAnyH_ready (rs := [5, 10]) (by kernel_rfl) (by simp) ?_
              refine AllReadyH.cons rfl (fun Kc hK => ?_) (AllReadyH.cons rfl (fun Kc hK => ?_) (AllReadyH.nil))
              · go_simp
                go_at_call 129
                refine (join_any _ _ (1 + 3 + 1 + 3 * n + 1 + 5 * k) _ _ (2) _ _ ([o] ++ nb 3 s ++ [(n : Int)] ++ kbs K ++ [(m : Int)] ++ tbs (T.take k)) (nb 2 (a)) _ (ut1_69.out.toBRow (by omega)) (by omega) ot1_f.out (by omega)).mono ?_
                rintro e wt2 ⟨rvt2, rfl, hOt2⟩
                obtain ⟨bt2, dt2, rfl⟩ := hOt2.slice
                have hbt2 := hOt2.below
                have szt2 : wt1.heap.size <= wt2.heap.size := hbt2.size
                clear ut1_69 ot1_f
                have ltt2_f := Lib.hid (fun (kk : Nat) (hkk : (Value.slice bt2 (1 + 3 + 1 + 3 * n + 1 + 5 * k + 2) dt2).ownBlock = some kk) => (hOt2.row.lt kk hkk).2)
                have ot2_f := Lib.hid (hOt2.base (rs3_out (by assumption)).2)
                clear hOt2
                refine hK.out _ _ ?_ (fun hHeld => ?_)
                · exact rs3_keep (by omega) (by omega) (by omega) (hbt2.mono (by omega)) (by assumption)
                clear hK Kc
                refine wpAnyH_ready (rs := [10]) (by kernel_rfl) (by simp) ?_
                refine AllReadyH.cons rfl (fun Kc hK => ?_) (AllReadyH.nil)
                go_simp
                obtain ⟨wt3, hwt3⟩ : ∃ x, x = wt2.alloc (.cells #[.int .u8 (b)] 5) := ⟨_, rfl⟩
                rw [<- hwt3]
                have hb3 := bbox_below hwt3
                have szt3 := box_size hwt3
                have ut3_74 := Lib.hid (ot2_f.out.grow hb3)
                clear ot2_f
                have bt3_f := Lib.hid (box_cell hwt3)
                clear hwt3
                refine hK.out _ _ ?_ (fun hHeld => ?_)
                · exact rs3_keep (by omega) (by omega) (by omega) (hb3.mono (by omega)) (by assumption)
                clear hK Kc
                refine wpAnyH_ready (rs := [11]) (by kernel_rfl) (by simp) ?_
                refine AllReadyH.cons rfl (fun Kc hK => ?_) (AllReadyH.nil)
                refine step_append_lies _ rfl _ _ 22 rfl wb.heap.size 5 iB (.int .u8 0) 1 1 Try.underlying22 I.out.1 I.out.2.1 I.out.2.2.1 I.out.2.2.2 rfl (by decide) _ (1 + 3 + 1 + 3 * n + 1 + 5 * k + 2) (byts ([o] ++ nb 3 s ++ [(n : Int)] ++ kbs K ++ [(m : Int)] ++ tbs (T.take k) ++ nb 2 (a))) rfl ut3_74.out.row ⟨wt2.heap.size, 0, none⟩ 1 1 [.int .u8 (b)] rfl rfl (one_news bt3_f.out) (byt_one _) (by decide) (by unfold maxLen; omega) (by omega) (by omega) _ rfl ?_
                intro gt4 dt4 wt4 hownt4 hgt4 hatt4 hltt4
                have LTt4 : ∀ kk, (Value.slice bt2 (1 + 3 + 1 + 3 * n + 1 + 5 * k + 2) dt2).ownBlock = some kk -> wb.heap.size <= kk /\ kk < wt3.heap.size := fun kk hkk => ut3_74.out.row.lt kk hkk
                have hbt4 : Below wb.heap.size wt3 wt4 := (Below.refl _ _).grown hgt4 (by omega) (fun kk hkk => (LTt4 kk hkk).1)
                have szt4 : wt3.heap.size <= wt4.heap.size := hgt4.size
                have hOt4 := ut3_74.out.app hgt4 hownt4
                rw [byts_snoc] at hOt4
                have ot4_f := Lib.hid hOt4
                clear hOt4 hownt4 hgt4 hatt4 hltt4 LTt4 ut3_74 bt3_f ltt2_f
                go_simp
                refine hK.out _ _ ?_ (fun hHeld => ?_)
                · exact rs3_keep (by omega) (by omega) (by omega) (hbt4.mono (by omega)) (by assumption)
                clear hK Kc
                refine wpAnyH_ready (rs := [14]) (by kernel_rfl) (by simp) ?_
                refine AllReadyH.cons rfl (fun Kc hK => ?_) (AllReadyH.nil)
                go_simp
                go_at_call 130
                refine (wide_any 2 (c) _ (by decide) (by omega) (by omega)).mono ?_
                rintro e wt5 ⟨rvt5, rfl, hOt5⟩
                obtain ⟨bt5, dt5, rfl⟩ := hOt5.slice
                have hbt5 := hOt5.below
                have szt5 : wt4.heap.size <= wt5.heap.size := hbt5.size
                have ut5_80 := Lib.hid (ot4_f.out.grow hbt5)
                clear ot4_f
                have ot5_f := Lib.hid (hOt5.toBRow (by decide))
                clear hOt5
                refine hK.out _ _ ?_ (fun hHeld => ?_)
                · exact rs3_keep (by omega) (by omega) (by omega) (hbt5.mono (by omega)) (by assumption)
                clear hK Kc
                refine wpAnyH_ready (rs := [15]) (by kernel_rfl) (by simp) ?_
                refine AllReadyH.cons rfl (fun Kc hK => ?_) (AllReadyH.nil)
                go_simp
                go_at_call 129
                refine (join_any _ _ (1 + 3 + 1 + 3 * n + 1 + 5 * k + 2 + 1) _ _ (2) _ _ ([o] ++ nb 3 s ++ [(n : Int)] ++ kbs K ++ [(m : Int)] ++ tbs (T.take k) ++ nb 2 (a) ++ [b]) (nb 2 (c)) _ (ut5_80.out.toBRow (by omega)) (by omega) ot5_f.out (by omega)).mono ?_
                rintro e wt6 ⟨rvt6, rfl, hOt6⟩
                obtain ⟨bt6, dt6, rfl⟩ := hOt6.slice
                have hbt6 := hOt6.below
                have szt6 : wt5.heap.size <= wt6.heap.size := hbt6.size
                clear ut5_80 ot5_f
                have ltt6_f := Lib.hid (fun (kk : Nat) (hkk : (Value.slice bt6 (1 + 3 + 1 + 3 * n + 1 + 5 * k + 2 + 1 + 2) dt6).ownBlock = some kk) => (hOt6.row.lt kk hkk).2)
                have ot6_f := Lib.hid (hOt6.base (rs3_out (by assumption)).2)
                clear hOt6
                refine hK.out _ _ ?_ (fun hHeld => ?_)
                · exact rs3_keep (by omega) (by omega) (by omega) (hbt6.mono (by omega)) (by assumption)
                clear hK Kc
                refine step_read 16 3 rfl rfl (by kernel_rfl) (by kernel_rfl) (by kernel_rfl) (fun _ _ _ h => h) (by rfl) (v := ?_) (fun w hSw => ?_) (by assumption) ?_; rotate_left; (focus ((try dsimp only at hSw); go_simp; first | done | exact rfl)); simp only [List.set]
                refine wpAnyH_done (by kernel_rfl) ?_ _
                go_wp2_with fail
                have HE : Hid (Own 5 1 v1 wt6 (.slice bt6 (1 + 3 + 1 + 3 * n + 1 + 5 * k + 2 + 1 + 2) dt6) (1 + 3 + 1 + 3 * n + 1 + 5 * (k + 1)) (byts ([o] ++ nb 3 s ++ [(n : Int)] ++ kbs K ++ [(m : Int)] ++ tbs (T.take (k + 1))))) := by
                  have hh := (ot6_f.out.base (w0 := v1) HWb.out)
                  rw [<- nb1' gc (by omega), List.append_assoc ([o] ++ nb 3 s ++ [(n : Int)] ++ kbs K ++ [(m : Int)]), List.append_assoc ([o] ++ nb 3 s ++ [(n : Int)] ++ kbs K ++ [(m : Int)]), List.append_assoc ([o] ++ nb 3 s ++ [(n : Int)] ++ kbs K ++ [(m : Int)]), List.append_assoc (tbs (T.take k)), List.append_assoc (tbs (T.take k))] at hh
                  rw [tbs_take HL.out]
                  have e : 1 + 3 + 1 + 3 * n + 1 + 5 * (k + 1) = 1 + 3 + 1 + 3 * n + 1 + 5 * k + 2 + 1 + 2 := by omega
                  rw [e]
                  exact Lib.hid hh
                go_roundw
                case rel => exact ⟨k + 1, by omega, by go_num, HE⟩
                case measure => simp [intOf]; omega
              · go_simp
                obtain ⟨wt2, hwt2⟩ : ∃ x, x = wt1.alloc (.cells #[.int .u8 (b)] 5) := ⟨_, rfl⟩
                rw [<- hwt2]
                have hb2 := bbox_below hwt2
                have szt2 := box_size hwt2
                have ut2_69 := Lib.hid (ut1_69.out.grow hb2)
                clear ut1_69
                have ut2_73 := Lib.hid (ot1_f.out.below hb2 (by omega))
                clear ot1_f
                have bt2_f := Lib.hid (box_cell hwt2)
                clear hwt2
                refine hK.out _ _ ?_ (fun hHeld => ?_)
                · exact rs3_keep (by omega) (by omega) (by omega) (hb2.mono (by omega)) (by assumption)
                clear hK Kc
                refine wpAnyH_ready (rs := [5]) (by kernel_rfl) (by simp) ?_
                refine AllReadyH.cons rfl (fun Kc hK => ?_) (AllReadyH.nil)
                go_simp
                go_at_call 129
                refine (join_any _ _ (1 + 3 + 1 + 3 * n + 1 + 5 * k) _ _ (2) _ _ ([o] ++ nb 3 s ++ [(n : Int)] ++ kbs K ++ [(m : Int)] ++ tbs (T.take k)) (nb 2 (a)) _ (ut2_69.out.toBRow (by omega)) (by omega) ut2_73.out (by omega)).mono ?_
                rintro e wt3 ⟨rvt3, rfl, hOt3⟩
                obtain ⟨bt3, dt3, rfl⟩ := hOt3.slice
                have hbt3 := hOt3.below
                have szt3 : wt2.heap.size <= wt3.heap.size := hbt3.size
                clear ut2_69 ut2_73
                have ut3_79 := Lib.hid ((hbt3.cell (p := ⟨wt1.heap.size, 0, none⟩) (by show wt1.heap.size < _; omega)).trans bt2_f.out)
                clear bt2_f
                have ltt3_f := Lib.hid (fun (kk : Nat) (hkk : (Value.slice bt3 (1 + 3 + 1 + 3 * n + 1 + 5 * k + 2) dt3).ownBlock = some kk) => (hOt3.row.lt kk hkk).2)
                have ot3_f := Lib.hid (hOt3.base (rs3_out (by assumption)).2)
                clear hOt3
                refine hK.out _ _ ?_ (fun hHeld => ?_)
                · exact rs3_keep (by omega) (by omega) (by omega) (hbt3.mono (by omega)) (by assumption)
                clear hK Kc
                refine wpAnyH_ready (rs := [11]) (by kernel_rfl) (by simp) ?_
                refine AllReadyH.cons rfl (fun Kc hK => ?_) (AllReadyH.nil)
                refine step_append_lies _ rfl _ _ 22 rfl wb.heap.size 5 iB (.int .u8 0) 1 1 Try.underlying22 I.out.1 I.out.2.1 I.out.2.2.1 I.out.2.2.2 rfl (by decide) _ (1 + 3 + 1 + 3 * n + 1 + 5 * k + 2) (byts ([o] ++ nb 3 s ++ [(n : Int)] ++ kbs K ++ [(m : Int)] ++ tbs (T.take k) ++ nb 2 (a))) rfl ot3_f.out.row ⟨wt1.heap.size, 0, none⟩ 1 1 [.int .u8 (b)] rfl rfl (one_news ut3_79.out) (byt_one _) (by decide) (by unfold maxLen; omega) (by omega) (by omega) _ rfl ?_
                intro gt4 dt4 wt4 hownt4 hgt4 hatt4 hltt4
                have LTt4 : ∀ kk, (Value.slice bt3 (1 + 3 + 1 + 3 * n + 1 + 5 * k + 2) dt3).ownBlock = some kk -> wb.heap.size <= kk /\ kk < wt3.heap.size := fun kk hkk => ot3_f.out.row.lt kk hkk
                have hbt4 : Below wb.heap.size wt3 wt4 := (Below.refl _ _).grown hgt4 (by omega) (fun kk hkk => (LTt4 kk hkk).1)
                have szt4 : wt3.heap.size <= wt4.heap.size := hgt4.size
                have hOt4 := ot3_f.out.app hgt4 hownt4
                rw [byts_snoc] at hOt4
                have ot4_f := Lib.hid hOt4
                clear hOt4 hownt4 hgt4 hatt4 hltt4 LTt4 ot3_f ut3_79 ltt3_f
                go_simp
                refine hK.out _ _ ?_ (fun hHeld => ?_)
                · exact rs3_keep (by omega) (by omega) (by omega) (hbt4.mono (by omega)) (by assumption)
                clear hK Kc
                refine wpAnyH_ready (rs := [14]) (by kernel_rfl) (by simp) ?_
                refine AllReadyH.cons rfl (fun Kc hK => ?_) (AllReadyH.nil)
                go_simp
                go_at_call 130
                refine (wide_any 2 (c) _ (by decide) (by omega) (by omega)).mono ?_
                rintro e wt5 ⟨rvt5, rfl, hOt5⟩
                obtain ⟨bt5, dt5, rfl⟩ := hOt5.slice
                have hbt5 := hOt5.below
                have szt5 : wt4.heap.size <= wt5.heap.size := hbt5.size
                have ut5_80 := Lib.hid (ot4_f.out.grow hbt5)
                clear ot4_f
                have ot5_f := Lib.hid (hOt5.toBRow (by decide))
                clear hOt5
                refine hK.out _ _ ?_ (fun hHeld => ?_)
                · exact rs3_keep (by omega) (by omega) (by omega) (hbt5.mono (by omega)) (by assumption)
                clear hK Kc
                refine wpAnyH_ready (rs := [15]) (by kernel_rfl) (by simp) ?_
                refine AllReadyH.cons rfl (fun Kc hK => ?_) (AllReadyH.nil)
                go_simp
                go_at_call 129
                refine (join_any _ _ (1 + 3 + 1 + 3 * n + 1 + 5 * k + 2 + 1) _ _ (2) _ _ ([o] ++ nb 3 s ++ [(n : Int)] ++ kbs K ++ [(m : Int)] ++ tbs (T.take k) ++ nb 2 (a) ++ [b]) (nb 2 (c)) _ (ut5_80.out.toBRow (by omega)) (by omega) ot5_f.out (by omega)).mono ?_
                rintro e wt6 ⟨rvt6, rfl, hOt6⟩
                obtain ⟨bt6, dt6, rfl⟩ := hOt6.slice
                have hbt6 := hOt6.below
                have szt6 : wt5.heap.size <= wt6.heap.size := hbt6.size
                clear ut5_80 ot5_f
                have ltt6_f := Lib.hid (fun (kk : Nat) (hkk : (Value.slice bt6 (1 + 3 + 1 + 3 * n + 1 + 5 * k + 2 + 1 + 2) dt6).ownBlock = some kk) => (hOt6.row.lt kk hkk).2)
                have ot6_f := Lib.hid (hOt6.base (rs3_out (by assumption)).2)
                clear hOt6
                refine hK.out _ _ ?_ (fun hHeld => ?_)
                · exact rs3_keep (by omega) (by omega) (by omega) (hbt6.mono (by omega)) (by assumption)
                clear hK Kc
                refine step_read 16 3 rfl rfl (by kernel_rfl) (by kernel_rfl) (by kernel_rfl) (fun _ _ _ h => h) (by rfl) (v := ?_) (fun w hSw => ?_) (by assumption) ?_; rotate_left; (focus ((try dsimp only at hSw); go_simp; first | done | exact rfl)); simp only [List.set]
                refine wpAnyH_done (by kernel_rfl) ?_ _
                go_wp2_with fail
                have HE : Hid (Own 5 1 v1 wt6 (.slice bt6 (1 + 3 + 1 + 3 * n + 1 + 5 * k + 2 + 1 + 2) dt6) (1 + 3 + 1 + 3 * n + 1 + 5 * (k + 1)) (byts ([o] ++ nb 3 s ++ [(n : Int)] ++ kbs K ++ [(m : Int)] ++ tbs (T.take (k + 1))))) := by
                  have hh := (ot6_f.out.base (w0 := v1) HWb.out)
                  rw [<- nb1' gc (by omega), List.append_assoc ([o] ++ nb 3 s ++ [(n : Int)] ++ kbs K ++ [(m : Int)]), List.append_assoc ([o] ++ nb 3 s ++ [(n : Int)] ++ kbs K ++ [(m : Int)]), List.append_assoc ([o] ++ nb 3 s ++ [(n : Int)] ++ kbs K ++ [(m : Int)]), List.append_assoc (tbs (T.take k)), List.append_assoc (tbs (T.take k))] at hh
                  rw [tbs_take HL.out]
                  have e : 1 + 3 + 1 + 3 * n + 1 + 5 * (k + 1) = 1 + 3 + 1 + 3 * n + 1 + 5 * k + 2 + 1 + 2 := by omega
                  rw [e]
                  exact Lib.hid hh
                go_roundw
                case rel => exact ⟨k + 1, by omega, by go_num, HE⟩
                case measure => simp [intOf]; omega
            · go_simp
              obtain ⟨wt1, hwt1⟩ : ∃ x, x = wdt.alloc (.cells #[.int .u8 (b)] 5) := ⟨_, rfl⟩
              rw [<- hwt1]
              have hb1 := bbox_below hwt1
              have szt1 := box_size hwt1
              have ut1_69 := Lib.hid (ut0_69.out.grow hb1)
              clear ut0_69
              have bt1_f := Lib.hid (box_cell hwt1)
              clear hwt1
              refine hK.out _ _ ?_ (fun hHeld => ?_)
              · exact rs3_keep (by omega) (by omega) (by omega) (hb1.mono (by omega)) (by assumption)
              clear hK Kc
              refine wpAnyH_ready (rs := [4]) (by kernel_rfl) (by simp) ?_
              refine AllReadyH.cons rfl (fun Kc hK => ?_) (AllReadyH.nil)
              go_simp
              go_at_call 130
              refine (wide_any 2 (a) _ (by decide) (by omega) (by omega)).mono ?_
              rintro e wt2 ⟨rvt2, rfl, hOt2⟩
              obtain ⟨bt2, dt2, rfl⟩ := hOt2.slice
              have hbt2 := hOt2.below
              have szt2 : wt1.heap.size <= wt2.heap.size := hbt2.size
              have ut2_69 := Lib.hid (ut1_69.out.grow hbt2)
              clear ut1_69
              have ut2_79 := Lib.hid ((hbt2.cell (p := ⟨wdt.heap.size, 0, none⟩) (by show wdt.heap.size < _; omega)).trans bt1_f.out)
              clear bt1_f
              have ot2_f := Lib.hid (hOt2.toBRow (by decide))
              clear hOt2
              refine hK.out _ _ ?_ (fun hHeld => ?_)
              · exact rs3_keep (by omega) (by omega) (by omega) (hbt2.mono (by omega)) (by assumption)
              clear hK Kc
              refine wpAnyH_ready (rs := [5]) (by kernel_rfl) (by simp) ?_
              refine AllReadyH.cons rfl (fun Kc hK => ?_) (AllReadyH.nil)
              go_simp
              go_at_call 129
              refine (join_any _ _ (1 + 3 + 1 + 3 * n + 1 + 5 * k) _ _ (2) _ _ ([o] ++ nb 3 s ++ [(n : Int)] ++ kbs K ++ [(m : Int)] ++ tbs (T.take k)) (nb 2 (a)) _ (ut2_69.out.toBRow (by omega)) (by omega) ot2_f.out (by omega)).mono ?_
              rintro e wt3 ⟨rvt3, rfl, hOt3⟩
              obtain ⟨bt3, dt3, rfl⟩ := hOt3.slice
              have hbt3 := hOt3.below
              have szt3 : wt2.heap.size <= wt3.heap.size := hbt3.size
              clear ut2_69 ot2_f
              have ut3_79 := Lib.hid ((hbt3.cell (p := ⟨wdt.heap.size, 0, none⟩) (by show wdt.heap.size < _; omega)).trans ut2_79.out)
              clear ut2_79
              have ltt3_f := Lib.hid (fun (kk : Nat) (hkk : (Value.slice bt3 (1 + 3 + 1 + 3 * n + 1 + 5 * k + 2) dt3).ownBlock = some kk) => (hOt3.row.lt kk hkk).2)
              have ot3_f := Lib.hid (hOt3.base (rs3_out (by assumption)).2)
              clear hOt3
              refine hK.out _ _ ?_ (fun hHeld => ?_)
              · exact rs3_keep (by omega) (by omega) (by omega) (hbt3.mono (by omega)) (by assumption)
              clear hK Kc
              refine wpAnyH_ready (rs := [11]) (by kernel_rfl) (by simp) ?_
              refine AllReadyH.cons rfl (fun Kc hK => ?_) (AllReadyH.nil)
              refine step_append_lies _ rfl _ _ 22 rfl wb.heap.size 5 iB (.int .u8 0) 1 1 Try.underlying22 I.out.1 I.out.2.1 I.out.2.2.1 I.out.2.2.2 rfl (by decide) _ (1 + 3 + 1 + 3 * n + 1 + 5 * k + 2) (byts ([o] ++ nb 3 s ++ [(n : Int)] ++ kbs K ++ [(m : Int)] ++ tbs (T.take k) ++ nb 2 (a))) rfl ot3_f.out.row ⟨wdt.heap.size, 0, none⟩ 1 1 [.int .u8 (b)] rfl rfl (one_news ut3_79.out) (byt_one _) (by decide) (by unfold maxLen; omega) (by omega) (by omega) _ rfl ?_
              intro gt4 dt4 wt4 hownt4 hgt4 hatt4 hltt4
              have LTt4 : ∀ kk, (Value.slice bt3 (1 + 3 + 1 + 3 * n + 1 + 5 * k + 2) dt3).ownBlock = some kk -> wb.heap.size <= kk /\ kk < wt3.heap.size := fun kk hkk => ot3_f.out.row.lt kk hkk
              have hbt4 : Below wb.heap.size wt3 wt4 := (Below.refl _ _).grown hgt4 (by omega) (fun kk hkk => (LTt4 kk hkk).1)
              have szt4 : wt3.heap.size <= wt4.heap.size := hgt4.size
              have hOt4 := ot3_f.out.app hgt4 hownt4
              rw [byts_snoc] at hOt4
              have ot4_f := Lib.hid hOt4
              clear hOt4 hownt4 hgt4 hatt4 hltt4 LTt4 ot3_f ut3_79 ltt3_f
              go_simp
              refine hK.out _ _ ?_ (fun hHeld => ?_)
              · exact rs3_keep (by omega) (by omega) (by omega) (hbt4.mono (by omega)) (by assumption)
              clear hK Kc
              refine wpAnyH_ready (rs := [14]) (by kernel_rfl) (by simp) ?_
              refine AllReadyH.cons rfl (fun Kc hK => ?_) (AllReadyH.nil)
              go_simp
              go_at_call 130
              refine (wide_any 2 (c) _ (by decide) (by omega) (by omega)).mono ?_
              rintro e wt5 ⟨rvt5, rfl, hOt5⟩
              obtain ⟨bt5, dt5, rfl⟩ := hOt5.slice
              have hbt5 := hOt5.below
              have szt5 : wt4.heap.size <= wt5.heap.size := hbt5.size
              have ut5_80 := Lib.hid (ot4_f.out.grow hbt5)
              clear ot4_f
              have ot5_f := Lib.hid (hOt5.toBRow (by decide))
              clear hOt5
              refine hK.out _ _ ?_ (fun hHeld => ?_)
              · exact rs3_keep (by omega) (by omega) (by omega) (hbt5.mono (by omega)) (by assumption)
              clear hK Kc
              refine wpAnyH_ready (rs := [15]) (by kernel_rfl) (by simp) ?_
              refine AllReadyH.cons rfl (fun Kc hK => ?_) (AllReadyH.nil)
              go_simp
              go_at_call 129
              refine (join_any _ _ (1 + 3 + 1 + 3 * n + 1 + 5 * k + 2 + 1) _ _ (2) _ _ ([o] ++ nb 3 s ++ [(n : Int)] ++ kbs K ++ [(m : Int)] ++ tbs (T.take k) ++ nb 2 (a) ++ [b]) (nb 2 (c)) _ (ut5_80.out.toBRow (by omega)) (by omega) ot5_f.out (by omega)).mono ?_
              rintro e wt6 ⟨rvt6, rfl, hOt6⟩
              obtain ⟨bt6, dt6, rfl⟩ := hOt6.slice
              have hbt6 := hOt6.below
              have szt6 : wt5.heap.size <= wt6.heap.size := hbt6.size
              clear ut5_80 ot5_f
              have ltt6_f := Lib.hid (fun (kk : Nat) (hkk : (Value.slice bt6 (1 + 3 + 1 + 3 * n + 1 + 5 * k + 2 + 1 + 2) dt6).ownBlock = some kk) => (hOt6.row.lt kk hkk).2)
              have ot6_f := Lib.hid (hOt6.base (rs3_out (by assumption)).2)
              clear hOt6
              refine hK.out _ _ ?_ (fun hHeld => ?_)
              · exact rs3_keep (by omega) (by omega) (by omega) (hbt6.mono (by omega)) (by assumption)
              clear hK Kc
              refine step_read 16 3 rfl rfl (by kernel_rfl) (by kernel_rfl) (by kernel_rfl) (fun _ _ _ h => h) (by rfl) (v := ?_) (fun w hSw => ?_) (by assumption) ?_; rotate_left; (focus ((try dsimp only at hSw); go_simp; first | done | exact rfl)); simp only [List.set]
              refine wpAnyH_done (by kernel_rfl) ?_ _
              go_wp2_with fail
              have HE : Hid (Own 5 1 v1 wt6 (.slice bt6 (1 + 3 + 1 + 3 * n + 1 + 5 * k + 2 + 1 + 2) dt6) (1 + 3 + 1 + 3 * n + 1 + 5 * (k + 1)) (byts ([o] ++ nb 3 s ++ [(n : Int)] ++ kbs K ++ [(m : Int)] ++ tbs (T.take (k + 1))))) := by
                have hh := (ot6_f.out.base (w0 := v1) HWb.out)
                rw [<- nb1' gc (by omega), List.append_assoc ([o] ++ nb 3 s ++ [(n : Int)] ++ kbs K ++ [(m : Int)]), List.append_assoc ([o] ++ nb 3 s ++ [(n : Int)] ++ kbs K ++ [(m : Int)]), List.append_assoc ([o] ++ nb 3 s ++ [(n : Int)] ++ kbs K ++ [(m : Int)]), List.append_assoc (tbs (T.take k)), List.append_assoc (tbs (T.take k))] at hh
                rw [tbs_take HL.out]
                have e : 1 + 3 + 1 + 3 * n + 1 + 5 * (k + 1) = 1 + 3 + 1 + 3 * n + 1 + 5 * k + 2 + 1 + 2 := by omega
                rw [e]
                exact Lib.hid hh
              go_roundw
              case rel => exact ⟨k + 1, by omega, by go_num, HE⟩
              case measure => simp [intOf]; omega
          · have hge : ¬ ((k : Int) < (m : Int)) := by omega
            have ek : k = m := by omega
            rw [ek] at hO
            rw [ek]
            have e0 : T.take m = T := List.take_of_length_le (by rw [HT.out]; omega)
            rw [e0] at hO
            clear e0 hlt hge ek
            have hge : ¬ ((m : Int) < (m : Int)) := by omega
            go_wp2_with fail
            refine bodyPost_ret (v := .slice ba (1 + 3 + 1 + 3 * n + 1 + 5 * m) bc) (by simp [results, Try.results103, go_sem]) rfl ⟨_, rfl, ?_⟩
            have hh := hO.out.base B1.out
            unfold lby lby1
            rw [HK.out, HT.out, nb1' o0 (by omega), nb1' (x := (n : Int)) (by omega) (by omega), nb1' (x := (m : Int)) (by omega) (by omega)]
            exact hh
end Go.Proofs.Ytfpafjdakipccaa
