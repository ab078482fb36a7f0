/- An advertisement as it is sent, by the model. -/
import Derived.Test.YtcaoohcfoccedaaX9
import Derived.Deep.DeepCutAuto
namespace Go.Proofs.Ytcaoohcfoccedaa
open Go.RowKit


/-- An advertisement as it is sent. -/
def lput (o s ag : Int) (K : List Lk) (T : List Ed) : List Int := lby o s K T ++ [ag] ++ nb 3 (lsum o s ag K T)
theorem lput_len (o s ag : Int) (K : List Lk) (T : List Ed) : (lput o s ag K T).length = 10 + 3 * K.length + 5 * T.length := by
  simp only [lput, List.length_append, lby_len, nb_len, List.length_cons, List.length_nil]; omega
def lputs (o s ag : Int) (K : List Lk) (T : List Ed) : List Int := if lokB o s ag K T = true then lput o s ag K T else []
theorem lputs_yes {o s ag : Int} {K : List Lk} {T : List Ed} (h : lokB o s ag K T = true) : lputs o s ag K T = lput o s ag K T := if_pos h
theorem lputs_no {o s ag : Int} {K : List Lk} {T : List Ed} (h : lokB o s ag K T = false) : lputs o s ag K T = [] := if_neg (by rw [h]; decide)
theorem lputs_len {o s ag : Int} {K : List Lk} {T : List Ed} : (lputs o s ag K T).length ≤ 70 := by
  cases h : lokB o s ag K T
  · rw [lputs_no h]; simp
  · rw [lputs_yes h, lput_len]
    have := lok_bd h
    omega
theorem nb3 (x : Int) : nb 3 x = [x / 65536 % 256, x / 256 % 256, x % 256] := by
  simp [nb, nbw, List.range_succ]
theorem four_news {w : World} {b : Nat} {x y z t : Value} (h0 : w.cell? ⟨b, 0, none⟩ = some x) (h1 : w.cell? ⟨b, 1, none⟩ = some y) (h2 : w.cell? ⟨b, 2, none⟩ = some z) (h3 : w.cell? ⟨b, 3, none⟩ = some t) : ∀ (j : Nat) (u : Value), [x, y, z, t][j]? = some u → w.cell? ((⟨b, 0, none⟩ : Addr).add j) = some u := by
  intro j u hj
  rw [add_none]
  rcases j with _ | _ | _ | _ | j
  · simp at hj; subst hj; exact h0
  · simp at hj; subst hj; exact h1
  · simp at hj; subst hj; exact h2
  · simp at hj; subst hj; exact h3
  · simp at hj
theorem byt_four (x y z t : Int) : ∀ u ∈ [Value.int .u8 x, Value.int .u8 y, Value.int .u8 z, Value.int .u8 t], u.oneCell' = true := by
  intro u hu
  simp at hu
  rcases hu with rfl | rfl | rfl | rfl <;> rfl

set_option maxRecDepth 100000 in
set_option maxHeartbeats 8000000 in
theorem slput_no (o s ag : Int) (lo hi lo' hi' n m : Nat) (u v : Value) (K : List Lk) (T : List Ed) (w : World) (hK : K.length = n) (hT : T.length = m) (hr : Row 2 w lo hi u n (flat2 K)) (hr' : Row 3 w lo' hi' v m (flat T)) (hh : hi ≤ w.heap.size) (hh' : hi' ≤ w.heap.size) (hv : lokB o s ag K T = false) :
    Calls Try.prog 26 #[.agg #[.int .i64 o, .int .i64 s, .int .i64 ag, u, v]] w fun e w' => e = .returned (.slice none 0 0) ∧ Below w.heap.size w w' := by
  have R0 := Lib.hid hr
  have R1 := Lib.hid hr'
  have HK := Lib.hid hK
  have HT := Lib.hid hT
  have Hv := Lib.hid hv
  obtain ⟨ad, cp, rfl⟩ := hr.slice
  obtain ⟨ae, cq, rfl⟩ := hr'.slice
  clear hr hr' hK hT hv
  go_enter Try.func26, Try.ntmps26
  go_wp2_with fail
  go_at_call 12
  refine (slok_any o s ag lo hi lo' hi' n m _ _ K T _ HK.out HT.out (R0.out.below (B := w.heap.size) (by go_grown) (by omega)) (R1.out.below (B := w.heap.size) (by go_grown) (by omega)) (by first | omega | (simp; omega)) (by first | omega | (simp; omega))).mono ?_
  rw [Hv.out]
  rintro e v1 ⟨rfl, hb1⟩
  have sz1 : w.heap.size + 1 ≤ v1.heap.size := by have hh := hb1.size; simp at hh; omega
  have st1 : Below w.heap.size w v1 := Below.trans (by go_grown) (hb1.mono (by simp))
  have c1_0 : v1.cell? ⟨w.heap.size, 0, none⟩ = some (.int .i64 o) := by rw [(bcell hb1).1 _ _ (by simp)]; first | (rw [new_at (by simp)]; rfl) | simp
  have c1_1 : v1.cell? ⟨w.heap.size, 1, none⟩ = some (.int .i64 s) := by rw [(bcell hb1).1 _ _ (by simp)]; first | (rw [new_at (by simp)]; rfl) | simp
  have c1_2 : v1.cell? ⟨w.heap.size, 2, none⟩ = some (.int .i64 ag) := by rw [(bcell hb1).1 _ _ (by simp)]; first | (rw [new_at (by simp)]; rfl) | simp
  have c1_3 : v1.cell? ⟨w.heap.size, 3, none⟩ = some (.slice ad n cp) := by rw [(bcell hb1).1 _ _ (by simp)]; first | (rw [new_at (by simp)]; rfl) | simp
  have c1_4 : v1.cell? ⟨w.heap.size, 4, none⟩ = some (.slice ae m cq) := by rw [(bcell hb1).1 _ _ (by simp)]; first | (rw [new_at (by simp)]; rfl) | simp
  have B1 : Hid (Below w.heap.size w v1) := st1
  have R1_0 : Hid (Row 2 v1 (lo) (hi) (.slice ad n cp) n (flat2 K)) := R0.out.below st1 (by omega)
  have R1_1 : Hid (Row 3 v1 (lo') (hi') (.slice ae m cq) m (flat T)) := R1.out.below st1 (by omega)
  have d1_0 : w.heap.size < v1.heap.size := by omega
  have e1_0 : w.heap.size ≠ v1.heap.size := by omega
  clear st1 R0 R1 hb1
  go_wp2_with fail
  go_ret
  exact ⟨rfl, B1.out⟩

set_option maxRecDepth 100000 in
set_option maxHeartbeats 8000000 in
theorem ilput_no (o s ag : Int) (lo hi lo' hi' n m : Nat) (u v : Value) (K : List Lk) (T : List Ed) (w : World) (hK : K.length = n) (hT : T.length = m) (hr : Row 2 w lo hi u n (flat2 K)) (hr' : Row 3 w lo' hi' v m (flat T)) (hh : hi ≤ w.heap.size) (hh' : hi' ≤ w.heap.size) (hv : lokB o s ag K T = false) :
    Calls Try.prog 27 #[.agg #[.int .i64 o, .int .i64 s, .int .i64 ag, u, v]] w fun e w' => e = .returned (.slice none 0 0) ∧ Below w.heap.size w w' := by
  have R0 := Lib.hid hr
  have R1 := Lib.hid hr'
  have HK := Lib.hid hK
  have HT := Lib.hid hT
  have Hv := Lib.hid hv
  obtain ⟨ad, cp, rfl⟩ := hr.slice
  obtain ⟨ae, cq, rfl⟩ := hr'.slice
  clear hr hr' hK hT hv
  go_enter Try.func27, Try.ntmps27
  go_wp2_with fail
  go_at_call 14
  refine (ilok_any o s ag lo hi lo' hi' n m _ _ K T _ HK.out HT.out (R0.out.below (B := w.heap.size) (by go_grown) (by omega)) (R1.out.below (B := w.heap.size) (by go_grown) (by omega)) (by first | omega | (simp; omega)) (by first | omega | (simp; omega))).mono ?_
  rw [Hv.out]
  rintro e v1 ⟨rfl, hb1⟩
  have sz1 : w.heap.size + 1 ≤ v1.heap.size := by have hh := hb1.size; simp at hh; omega
  have st1 : Below w.heap.size w v1 := Below.trans (by go_grown) (hb1.mono (by simp))
  have c1_0 : v1.cell? ⟨w.heap.size, 0, none⟩ = some (.int .i64 o) := by rw [(bcell hb1).1 _ _ (by simp)]; first | (rw [new_at (by simp)]; rfl) | simp
  have c1_1 : v1.cell? ⟨w.heap.size, 1, none⟩ = some (.int .i64 s) := by rw [(bcell hb1).1 _ _ (by simp)]; first | (rw [new_at (by simp)]; rfl) | simp
  have c1_2 : v1.cell? ⟨w.heap.size, 2, none⟩ = some (.int .i64 ag) := by rw [(bcell hb1).1 _ _ (by simp)]; first | (rw [new_at (by simp)]; rfl) | simp
  have c1_3 : v1.cell? ⟨w.heap.size, 3, none⟩ = some (.slice ad n cp) := by rw [(bcell hb1).1 _ _ (by simp)]; first | (rw [new_at (by simp)]; rfl) | simp
  have c1_4 : v1.cell? ⟨w.heap.size, 4, none⟩ = some (.slice ae m cq) := by rw [(bcell hb1).1 _ _ (by simp)]; first | (rw [new_at (by simp)]; rfl) | simp
  have B1 : Hid (Below w.heap.size w v1) := st1
  have R1_0 : Hid (Row 2 v1 (lo) (hi) (.slice ad n cp) n (flat2 K)) := R0.out.below st1 (by omega)
  have R1_1 : Hid (Row 3 v1 (lo') (hi') (.slice ae m cq) m (flat T)) := R1.out.below st1 (by omega)
  have d1_0 : w.heap.size < v1.heap.size := by omega
  have e1_0 : w.heap.size ≠ v1.heap.size := by omega
  clear st1 R0 R1 hb1
  go_wp2_with fail
  go_ret
  exact ⟨rfl, B1.out⟩

set_option maxRecDepth 100000 in
set_option maxHeartbeats 8000000 in
theorem slput_yes (o s ag : Int) (lo hi lo' hi' n m : Nat) (u v : Value) (K : List Lk) (T : List Ed) (w : World) (hK : K.length = n) (hT : T.length = m) (hr : Row 2 w lo hi u n (flat2 K)) (hr' : Row 3 w lo' hi' v m (flat T)) (hh : hi ≤ w.heap.size) (hh' : hi' ≤ w.heap.size) (hv : lokB o s ag K T = true) :
    Calls Try.prog 26 #[.agg #[.int .i64 o, .int .i64 s, .int .i64 ag, u, v]] w fun e w' => ∃ rv, e = .returned rv ∧ Own 5 1 w w' rv (1 + 3 + 1 + 3 * n + 1 + 5 * m + 1 + 3) (byts (lput o s ag K T)) := by
  have hbd := lok_bd hv
  rw [hK, hT] at hbd
  obtain ⟨o0, o1, s0, s1, g0, g1, hn10, hm6⟩ := hbd
  have hs0 : 0 ≤ lsum o s ag K T ∧ lsum o s ag K T ≤ 1000002 := by rw [lsum_yes hv]; exact hsums_bd _
  obtain ⟨hs0, hs1⟩ := hs0
  obtain ⟨iB, hi, hz0, hz1, hz2⟩ := info_parts Try.info5
  have I := Lib.hid (And.intro hi (And.intro hz0 (And.intro hz1 hz2)))
  clear hi hz0 hz1 hz2
  have R0 := Lib.hid hr
  have R1 := Lib.hid hr'
  have HK := Lib.hid hK
  have HT := Lib.hid hT
  have Hv := Lib.hid hv
  obtain ⟨ad, cp, rfl⟩ := hr.slice
  obtain ⟨ae, cq, rfl⟩ := hr'.slice
  clear hr hr' hK hT hv
  go_enter Try.func26, Try.ntmps26
  go_wp2_with fail
  go_at_call 12
  refine (slok_any o s ag lo hi lo' hi' n m _ _ K T _ HK.out HT.out (R0.out.below (B := w.heap.size) (by go_grown) (by omega)) (R1.out.below (B := w.heap.size) (by go_grown) (by omega)) (by first | omega | (simp; omega)) (by first | omega | (simp; omega))).mono ?_
  rw [Hv.out]
  rintro e v1 ⟨rfl, hb1⟩
  have sz1 : w.heap.size + 1 ≤ v1.heap.size := by have hh := hb1.size; simp at hh; omega
  have st1 : Below w.heap.size w v1 := Below.trans (by go_grown) (hb1.mono (by simp))
  have c1_0 : v1.cell? ⟨w.heap.size, 0, none⟩ = some (.int .i64 o) := by rw [(bcell hb1).1 _ _ (by simp)]; first | (rw [new_at (by simp)]; rfl) | simp
  have c1_1 : v1.cell? ⟨w.heap.size, 1, none⟩ = some (.int .i64 s) := by rw [(bcell hb1).1 _ _ (by simp)]; first | (rw [new_at (by simp)]; rfl) | simp
  have c1_2 : v1.cell? ⟨w.heap.size, 2, none⟩ = some (.int .i64 ag) := by rw [(bcell hb1).1 _ _ (by simp)]; first | (rw [new_at (by simp)]; rfl) | simp
  have c1_3 : v1.cell? ⟨w.heap.size, 3, none⟩ = some (.slice ad n cp) := by rw [(bcell hb1).1 _ _ (by simp)]; first | (rw [new_at (by simp)]; rfl) | simp
  have c1_4 : v1.cell? ⟨w.heap.size, 4, none⟩ = some (.slice ae m cq) := by rw [(bcell hb1).1 _ _ (by simp)]; first | (rw [new_at (by simp)]; rfl) | simp
  have B1 : Hid (Below w.heap.size w v1) := st1
  have R1_0 : Hid (Row 2 v1 (lo) (hi) (.slice ad n cp) n (flat2 K)) := R0.out.below st1 (by omega)
  have R1_1 : Hid (Row 3 v1 (lo') (hi') (.slice ae m cq) m (flat T)) := R1.out.below st1 (by omega)
  have d1_0 : w.heap.size < v1.heap.size := by omega
  have e1_0 : w.heap.size ≠ v1.heap.size := by omega
  clear st1 R0 R1 hb1
  have hwv : w.heap.size < v1.heap.size := by omega
  have HB1 := B1
  have RR0 := R1_0
  have RR1 := R1_1
  have we : IntKind.u8.wrap ag = ag := IntWalk.u8_in ag (by omega)
  go_wp2_with fail
  have hstp := rs5_start c1_0 c1_1 c1_2 c1_3 c1_4 (Below.refl _ _)
  refine wp_region_held_drew (S := (fun w' => w'.cell? ⟨w.heap.size, 0, none⟩ = some (.int .i64 o) ∧ w'.cell? ⟨w.heap.size, 1, none⟩ = some (.int .i64 s) ∧ w'.cell? ⟨w.heap.size, 2, none⟩ = some (.int .i64 ag) ∧ w'.cell? ⟨w.heap.size, 3, none⟩ = some (.slice ad n cp) ∧ w'.cell? ⟨w.heap.size, 4, none⟩ = some (.slice ae m cq) ∧ v1.heap.size ≤ w'.heap.size ∧ Below v1.heap.size v1 w')) (by kernel_rfl) ?_ (fun hHeld => ?_)
  · exact hstp
  obtain ⟨wdp, hwdp⟩ : ∃ x, x = v1.drew := ⟨_, rfl⟩
  rw [← hwdp]
  rw [← hwdp] at hHeld
  have szdp : v1.heap.size ≤ wdp.heap.size := by rw [hwdp]; exact Nat.le_refl _
  clear hwdp
  refine step_read 0 6 rfl rfl (by kernel_rfl) (by kernel_rfl) (by kernel_rfl) (fun _ _ _ h => h) (by rfl) (v := ?_) (fun w hSw => ?_) (by assumption) ?_; rotate_left; (focus ((try dsimp only at hSw); go_simp; first | done | exact rfl)); simp only [List.set]
  refine step_read 2 8 rfl rfl (by kernel_rfl) (by kernel_rfl) (by kernel_rfl) (fun _ _ _ h => h) (by rfl) (v := ?_) (fun w hSw => ?_) (by assumption) ?_; rotate_left; (focus ((try dsimp only at hSw); go_simp; first | done | exact rfl)); simp only [List.set]
  refine step_read 3 9 rfl rfl (by kernel_rfl) (by kernel_rfl) (by kernel_rfl) (fun _ _ _ h => h) (by rfl) (v := ?_) (fun w hSw => ?_) (by assumption) ?_; rotate_left; (focus ((try dsimp only at hSw); go_simp; first | done | exact rfl)); simp only [List.set]
  refine step_read 4 10 rfl rfl (by kernel_rfl) (by kernel_rfl) (by kernel_rfl) (fun _ _ _ h => h) (by rfl) (v := ?_) (fun w hSw => ?_) (by assumption) ?_; rotate_left; (focus ((try dsimp only at hSw); go_simp; first | done | exact rfl)); simp only [List.set]
  refine step_read 7 13 rfl rfl (by kernel_rfl) (by kernel_rfl) (by kernel_rfl) (fun _ _ _ h => h) (by rfl) (v := ?_) (fun w hSw => ?_) (by assumption) ?_; rotate_left; (focus ((try dsimp only at hSw); go_simp; first | done | exact rfl)); simp only [List.set]
  refine wpAnyH_ready (rs := [1, 5]) (by kernel_rfl) (by simp) ?_
  refine AllReadyH.cons rfl (fun Kc hK => ?_) (AllReadyH.cons rfl (fun Kc hK => ?_) (AllReadyH.nil))
  · go_simp
    go_at_call 16
    refine (slbytes_yes o s ag lo hi lo' hi' n m _ _ K T _ HK.out HT.out (RR0.out.below (rs5_out (by assumption)).2 (by omega)) (RR1.out.below (rs5_out (by assumption)).2 (by omega)) (by omega) (by omega) Hv.out).mono ?_
    rintro e wp1 ⟨rvp1, rfl, hOp1⟩
    obtain ⟨bp1, dp1, rfl⟩ := hOp1.slice
    have hbp1 := hOp1.below
    have ltp1_f := Lib.hid (fun (kk : Nat) (hkk : (Value.slice bp1 (1 + 3 + 1 + 3 * n + 1 + 5 * m) dp1).ownBlock = some kk) => (hOp1.row.lt kk hkk).2)
    have op1_f := Lib.hid (hOp1.base (rs5_out (by assumption)).2)
    clear hOp1
    have szp1 : wdp.heap.size ≤ wp1.heap.size := hbp1.size
    refine hK.out _ _ ?_ (fun hHeld => ?_)
    · exact rs5_keep (by omega) (by omega) (by omega) (by omega) (by omega) (hbp1.mono (by omega)) (by assumption)
    clear hK Kc
    refine wpAnyH_ready (rs := [5]) (by kernel_rfl) (by simp) ?_
    refine AllReadyH.cons rfl (fun Kc hK => ?_) (AllReadyH.nil)
    go_simp
    obtain ⟨wp2, hwp2⟩ : ∃ x, x = wp1.alloc (.cells #[.int .u8 (ag)] 5) := ⟨_, rfl⟩
    rw [← hwp2]
    have hb2 := bbox_below hwp2
    have szp2 := box_size hwp2
    have up2_7 := Lib.hid (op1_f.out.grow hb2)
    clear op1_f
    have bp2_f := Lib.hid (box_cell hwp2)
    clear hwp2
    refine hK.out _ _ ?_ (fun hHeld => ?_)
    · exact rs5_keep (by omega) (by omega) (by omega) (by omega) (by omega) (hb2.mono (by omega)) (by assumption)
    clear hK Kc
    refine wpAnyH_ready (rs := [6]) (by kernel_rfl) (by simp) ?_
    refine AllReadyH.cons rfl (fun Kc hK => ?_) (AllReadyH.nil)
    refine step_append_lies _ rfl _ _ 35 rfl v1.heap.size 5 iB (.int .u8 0) 1 1 Try.underlying35 I.out.1 I.out.2.1 I.out.2.2.1 I.out.2.2.2 rfl (by decide) _ (1 + 3 + 1 + 3 * n + 1 + 5 * m) (byts (lby o s K T)) rfl up2_7.out.row ⟨wp1.heap.size, 0, none⟩ 1 1 [.int .u8 (ag)] rfl rfl (one_news bp2_f.out) (byt_one _) (by decide) (by unfold maxLen; omega) (by omega) (by omega) _ rfl ?_
    intro gp3 dp3 wp3 hownp3 hgp3 hatp3 hltp3
    have LTp3 : ∀ kk, (Value.slice bp1 (1 + 3 + 1 + 3 * n + 1 + 5 * m) dp1).ownBlock = some kk → v1.heap.size ≤ kk ∧ kk < wp2.heap.size := fun kk hkk => up2_7.out.row.lt kk hkk
    have hbp3 : Below v1.heap.size wp2 wp3 := (Below.refl _ _).grown hgp3 (by omega) (fun kk hkk => (LTp3 kk hkk).1)
    have szp3 : wp2.heap.size ≤ wp3.heap.size := hgp3.size
    have hOp3 := up2_7.out.app hgp3 hownp3
    rw [byts_snoc] at hOp3
    have op3_f := Lib.hid hOp3
    clear hOp3 hownp3 hgp3 hatp3 hltp3 LTp3 up2_7 bp2_f ltp1_f
    go_simp
    refine hK.out _ _ ?_ (fun hHeld => ?_)
    · exact rs5_keep (by omega) (by omega) (by omega) (by omega) (by omega) (hbp3.mono (by omega)) (by assumption)
    clear hK Kc
    refine wpAnyH_ready (rs := [8]) (by kernel_rfl) (by simp) ?_
    refine AllReadyH.cons rfl (fun Kc hK => ?_) (AllReadyH.nil)
    go_simp
    go_at_call 22
    refine (slsum_any o s ag lo hi lo' hi' n m _ _ K T _ HK.out HT.out (RR0.out.below (rs5_out (by assumption)).2 (by omega)) (RR1.out.below (rs5_out (by assumption)).2 (by omega)) (by omega) (by omega)).mono ?_
    rintro e wp4 ⟨rfl, hbp4⟩
    have szp4 : wp3.heap.size ≤ wp4.heap.size := hbp4.size
    have up4_12 := Lib.hid (op3_f.out.grow hbp4)
    clear op3_f
    refine hK.out _ _ ?_ (fun hHeld => ?_)
    · exact rs5_keep (by omega) (by omega) (by omega) (by omega) (by omega) (hbp4.mono (by omega)) (by assumption)
    clear hK Kc
    refine wpAnyH_ready (rs := [9]) (by kernel_rfl) (by simp) ?_
    refine AllReadyH.cons rfl (fun Kc hK => ?_) (AllReadyH.nil)
    go_simp
    go_at_call 50
    refine (wide_any 3 (lsum o s ag K T) _ (by decide) (by omega) (by omega)).mono ?_
    rintro e wp5 ⟨rvp5, rfl, hOp5⟩
    obtain ⟨bp5, dp5, rfl⟩ := hOp5.slice
    have hbp5 := hOp5.below
    have szp5 : wp4.heap.size ≤ wp5.heap.size := hbp5.size
    have up5_12 := Lib.hid (up4_12.out.grow hbp5)
    clear up4_12
    have op5_f := Lib.hid (hOp5.toBRow (by decide))
    clear hOp5
    refine hK.out _ _ ?_ (fun hHeld => ?_)
    · exact rs5_keep (by omega) (by omega) (by omega) (by omega) (by omega) (hbp5.mono (by omega)) (by assumption)
    clear hK Kc
    refine wpAnyH_ready (rs := [10]) (by kernel_rfl) (by simp) ?_
    refine AllReadyH.cons rfl (fun Kc hK => ?_) (AllReadyH.nil)
    go_simp
    go_at_call 49
    refine (join_any _ _ (1 + 3 + 1 + 3 * n + 1 + 5 * m + 1) _ _ (3) _ _ (lby o s K T ++ [ag]) (nb 3 (lsum o s ag K T)) _ (up5_12.out.toBRow (by omega)) (by omega) op5_f.out (by omega)).mono ?_
    rintro e wp6 ⟨rvp6, rfl, hOp6⟩
    obtain ⟨bp6, dp6, rfl⟩ := hOp6.slice
    have hbp6 := hOp6.below
    have szp6 : wp5.heap.size ≤ wp6.heap.size := hbp6.size
    clear up5_12 op5_f
    have ltp6_f := Lib.hid (fun (kk : Nat) (hkk : (Value.slice bp6 (1 + 3 + 1 + 3 * n + 1 + 5 * m + 1 + 3) dp6).ownBlock = some kk) => (hOp6.row.lt kk hkk).2)
    have op6_f := Lib.hid (hOp6.base (rs5_out (by assumption)).2)
    clear hOp6
    refine hK.out _ _ ?_ (fun hHeld => ?_)
    · exact rs5_keep (by omega) (by omega) (by omega) (by omega) (by omega) (hbp6.mono (by omega)) (by assumption)
    clear hK Kc
    refine step_read 11 2 rfl rfl (by kernel_rfl) (by kernel_rfl) (by kernel_rfl) (fun _ _ _ h => h) (by rfl) (v := ?_) (fun w hSw => ?_) (by assumption) ?_; rotate_left; (focus ((try dsimp only at hSw); go_simp; first | done | exact rfl)); simp only [List.set]
    refine wpAnyH_done (by kernel_rfl) ?_ _
    go_wp2_with fail
    refine bodyPost_ret (v := .slice bp6 (1 + 3 + 1 + 3 * n + 1 + 5 * m + 1 + 3) dp6) (by simp [results, Try.results26, go_sem]) rfl ⟨_, rfl, ?_⟩
    exact op6_f.out.base HB1.out
  · go_simp
    obtain ⟨wp1, hwp1⟩ : ∃ x, x = wdp.alloc (.cells #[.int .u8 (ag)] 5) := ⟨_, rfl⟩
    rw [← hwp1]
    have hb1 := bbox_below hwp1
    have szp1 := box_size hwp1
    have bp1_f := Lib.hid (box_cell hwp1)
    clear hwp1
    refine hK.out _ _ ?_ (fun hHeld => ?_)
    · exact rs5_keep (by omega) (by omega) (by omega) (by omega) (by omega) (hb1.mono (by omega)) (by assumption)
    clear hK Kc
    refine wpAnyH_ready (rs := [1]) (by kernel_rfl) (by simp) ?_
    refine AllReadyH.cons rfl (fun Kc hK => ?_) (AllReadyH.nil)
    go_simp
    go_at_call 16
    refine (slbytes_yes o s ag lo hi lo' hi' n m _ _ K T _ HK.out HT.out (RR0.out.below (rs5_out (by assumption)).2 (by omega)) (RR1.out.below (rs5_out (by assumption)).2 (by omega)) (by omega) (by omega) Hv.out).mono ?_
    rintro e wp2 ⟨rvp2, rfl, hOp2⟩
    obtain ⟨bp2, dp2, rfl⟩ := hOp2.slice
    have hbp2 := hOp2.below
    have ltp2_f := Lib.hid (fun (kk : Nat) (hkk : (Value.slice bp2 (1 + 3 + 1 + 3 * n + 1 + 5 * m) dp2).ownBlock = some kk) => (hOp2.row.lt kk hkk).2)
    have op2_f := Lib.hid (hOp2.base (rs5_out (by assumption)).2)
    clear hOp2
    have szp2 : wp1.heap.size ≤ wp2.heap.size := hbp2.size
    have up2_11 := Lib.hid ((hbp2.cell (p := ⟨wdp.heap.size, 0, none⟩) (by show wdp.heap.size < _; omega)).trans bp1_f.out)
    clear bp1_f
    refine hK.out _ _ ?_ (fun hHeld => ?_)
    · exact rs5_keep (by omega) (by omega) (by omega) (by omega) (by omega) (hbp2.mono (by omega)) (by assumption)
    clear hK Kc
    refine wpAnyH_ready (rs := [6]) (by kernel_rfl) (by simp) ?_
    refine AllReadyH.cons rfl (fun Kc hK => ?_) (AllReadyH.nil)
    refine step_append_lies _ rfl _ _ 35 rfl v1.heap.size 5 iB (.int .u8 0) 1 1 Try.underlying35 I.out.1 I.out.2.1 I.out.2.2.1 I.out.2.2.2 rfl (by decide) _ (1 + 3 + 1 + 3 * n + 1 + 5 * m) (byts (lby o s K T)) rfl op2_f.out.row ⟨wdp.heap.size, 0, none⟩ 1 1 [.int .u8 (ag)] rfl rfl (one_news up2_11.out) (byt_one _) (by decide) (by unfold maxLen; omega) (by omega) (by omega) _ rfl ?_
    intro gp3 dp3 wp3 hownp3 hgp3 hatp3 hltp3
    have LTp3 : ∀ kk, (Value.slice bp2 (1 + 3 + 1 + 3 * n + 1 + 5 * m) dp2).ownBlock = some kk → v1.heap.size ≤ kk ∧ kk < wp2.heap.size := fun kk hkk => op2_f.out.row.lt kk hkk
    have hbp3 : Below v1.heap.size wp2 wp3 := (Below.refl _ _).grown hgp3 (by omega) (fun kk hkk => (LTp3 kk hkk).1)
    have szp3 : wp2.heap.size ≤ wp3.heap.size := hgp3.size
    have hOp3 := op2_f.out.app hgp3 hownp3
    rw [byts_snoc] at hOp3
    have op3_f := Lib.hid hOp3
    clear hOp3 hownp3 hgp3 hatp3 hltp3 LTp3 op2_f up2_11 ltp2_f
    go_simp
    refine hK.out _ _ ?_ (fun hHeld => ?_)
    · exact rs5_keep (by omega) (by omega) (by omega) (by omega) (by omega) (hbp3.mono (by omega)) (by assumption)
    clear hK Kc
    refine wpAnyH_ready (rs := [8]) (by kernel_rfl) (by simp) ?_
    refine AllReadyH.cons rfl (fun Kc hK => ?_) (AllReadyH.nil)
    go_simp
    go_at_call 22
    refine (slsum_any o s ag lo hi lo' hi' n m _ _ K T _ HK.out HT.out (RR0.out.below (rs5_out (by assumption)).2 (by omega)) (RR1.out.below (rs5_out (by assumption)).2 (by omega)) (by omega) (by omega)).mono ?_
    rintro e wp4 ⟨rfl, hbp4⟩
    have szp4 : wp3.heap.size ≤ wp4.heap.size := hbp4.size
    have up4_12 := Lib.hid (op3_f.out.grow hbp4)
    clear op3_f
    refine hK.out _ _ ?_ (fun hHeld => ?_)
    · exact rs5_keep (by omega) (by omega) (by omega) (by omega) (by omega) (hbp4.mono (by omega)) (by assumption)
    clear hK Kc
    refine wpAnyH_ready (rs := [9]) (by kernel_rfl) (by simp) ?_
    refine AllReadyH.cons rfl (fun Kc hK => ?_) (AllReadyH.nil)
    go_simp
    go_at_call 50
    refine (wide_any 3 (lsum o s ag K T) _ (by decide) (by omega) (by omega)).mono ?_
    rintro e wp5 ⟨rvp5, rfl, hOp5⟩
    obtain ⟨bp5, dp5, rfl⟩ := hOp5.slice
    have hbp5 := hOp5.below
    have szp5 : wp4.heap.size ≤ wp5.heap.size := hbp5.size
    have up5_12 := Lib.hid (up4_12.out.grow hbp5)
    clear up4_12
    have op5_f := Lib.hid (hOp5.toBRow (by decide))
    clear hOp5
    refine hK.out _ _ ?_ (fun hHeld => ?_)
    · exact rs5_keep (by omega) (by omega) (by omega) (by omega) (by omega) (hbp5.mono (by omega)) (by assumption)
    clear hK Kc
    refine wpAnyH_ready (rs := [10]) (by kernel_rfl) (by simp) ?_
    refine AllReadyH.cons rfl (fun Kc hK => ?_) (AllReadyH.nil)
    go_simp
    go_at_call 49
    refine (join_any _ _ (1 + 3 + 1 + 3 * n + 1 + 5 * m + 1) _ _ (3) _ _ (lby o s K T ++ [ag]) (nb 3 (lsum o s ag K T)) _ (up5_12.out.toBRow (by omega)) (by omega) op5_f.out (by omega)).mono ?_
    rintro e wp6 ⟨rvp6, rfl, hOp6⟩
    obtain ⟨bp6, dp6, rfl⟩ := hOp6.slice
    have hbp6 := hOp6.below
    have szp6 : wp5.heap.size ≤ wp6.heap.size := hbp6.size
    clear up5_12 op5_f
    have ltp6_f := Lib.hid (fun (kk : Nat) (hkk : (Value.slice bp6 (1 + 3 + 1 + 3 * n + 1 + 5 * m + 1 + 3) dp6).ownBlock = some kk) => (hOp6.row.lt kk hkk).2)
    have op6_f := Lib.hid (hOp6.base (rs5_out (by assumption)).2)
    clear hOp6
    refine hK.out _ _ ?_ (fun hHeld => ?_)
    · exact rs5_keep (by omega) (by omega) (by omega) (by omega) (by omega) (hbp6.mono (by omega)) (by assumption)
    clear hK Kc
    refine step_read 11 2 rfl rfl (by kernel_rfl) (by kernel_rfl) (by kernel_rfl) (fun _ _ _ h => h) (by rfl) (v := ?_) (fun w hSw => ?_) (by assumption) ?_; rotate_left; (focus ((try dsimp only at hSw); go_simp; first | done | exact rfl)); simp only [List.set]
    refine wpAnyH_done (by kernel_rfl) ?_ _
    go_wp2_with fail
    refine bodyPost_ret (v := .slice bp6 (1 + 3 + 1 + 3 * n + 1 + 5 * m + 1 + 3) dp6) (by simp [results, Try.results26, go_sem]) rfl ⟨_, rfl, ?_⟩
    exact op6_f.out.base HB1.out

theorem slput_any (o s ag : Int) (lo hi lo' hi' n m : Nat) (u v : Value) (K : List Lk) (T : List Ed) (w : World) (hK : K.length = n) (hT : T.length = m) (hr : Row 2 w lo hi u n (flat2 K)) (hr' : Row 3 w lo' hi' v m (flat T)) (hh : hi ≤ w.heap.size) (hh' : hi' ≤ w.heap.size) :
    Calls Try.prog 26 #[.agg #[.int .i64 o, .int .i64 s, .int .i64 ag, u, v]] w fun e w' => ∃ rv, e = .returned rv ∧ BRow 1 w' w.heap.size w'.heap.size rv (lputs o s ag K T).length (lputs o s ag K T) ∧ Below w.heap.size w w' := by
  cases hv : lokB o s ag K T
  · rw [lputs_no hv]
    exact (slput_no o s ag lo hi lo' hi' n m u v K T w hK hT hr hr' hh hh' hv).mono fun e w' ⟨he, hb⟩ => ⟨_, he, ⟨rfl, .inl ⟨rfl, none, 0, rfl⟩⟩, hb⟩
  · rw [lputs_yes hv]
    have hl : (lput o s ag K T).length = 1 + 3 + 1 + 3 * n + 1 + 5 * m + 1 + 3 := by rw [lput_len, hK, hT]; omega
    rw [hl]
    have hbd := lok_bd hv
    exact (slput_yes o s ag lo hi lo' hi' n m u v K T w hK hT hr hr' hh hh' hv).mono fun e w' ⟨rv, he, ho⟩ => ⟨rv, he, ho.toBRow (by omega), ho.below⟩

end Go.Proofs.Ytcaoohcfoccedaa
