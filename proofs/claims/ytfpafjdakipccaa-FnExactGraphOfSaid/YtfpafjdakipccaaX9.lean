/- The bytes and the checksum of an advertisement, by both. -/
import Derived.Test.YtfpafjdakipccaaX8
namespace Go.Proofs.Ytfpafjdakipccaa
open Go.RowKit
def lbs (o s ag : Int) (K : List Lk) (T : List Ed) : List Int := if lokB o s ag K T = true then lby o s K T else []
theorem lbs_yes {o s ag : Int} {K : List Lk} {T : List Ed} (h : lokB o s ag K T = true) : lbs o s ag K T = lby o s K T := if_pos h
theorem lbs_no {o s ag : Int} {K : List Lk} {T : List Ed} (h : lokB o s ag K T = false) : lbs o s ag K T = [] := if_neg (by rw [h]; decide)
theorem lok_bd {o s ag : Int} {K : List Lk} {T : List Ed} (h : lokB o s ag K T = true) : 0 <= o /\ o <= 9 /\ 1 <= s /\ s <= 1000000 /\ 0 <= ag /\ ag <= 60 /\ K.length <= 10 /\ T.length <= 6 := by
  unfold lokB at h
  rw [Bool.and_eq_true, Bool.and_eq_true, Bool.and_eq_true, Bool.and_eq_true, inB_iff, inB_iff, inB_iff] at h
  have h1 := lksB_len h.1.2
  have h2 := stsB_len h.2
  omega
theorem nb_byt {k : Nat} {x z : Int} (h : z ∈ nb k x) : 0 <= z /\ z <= 255 := by
  unfold nb nbw at h
  obtain ⟨i, _, rfl⟩ := List.mem_map.1 h
  omega
theorem lby_byt {o s : Int} {K : List Lk} {T : List Ed} {z : Int} (h : z ∈ lby o s K T) : 0 <= z /\ z <= 255 := by
  unfold lby lby1 kbs tbs at h
  simp only [List.mem_append, List.mem_flatMap] at h
  rcases h with ((((h | h) | h) | ⟨l, _, h⟩) | h) | ⟨t, _, h⟩
  · exact nb_byt h
  · exact nb_byt h
  · exact nb_byt h
  · unfold kb at h
    rcases List.mem_append.1 h with h | h <;> exact nb_byt h
  · exact nb_byt h
  · unfold tb at h
    simp only [List.mem_append] at h
    rcases h with (h | h) | h <;> exact nb_byt h
theorem lbs_len {o s ag : Int} {K : List Lk} {T : List Ed} : (lbs o s ag K T).length <= 66 := by
  cases h : lokB o s ag K T
  · rw [lbs_no h]; simp
  · rw [lbs_yes h, lby_len]
    have := lok_bd h
    omega
theorem slbytes_any (o s ag : Int) (lo hi lo' hi' n m : Nat) (u v : Value) (K : List Lk) (T : List Ed) (w : World) (hK : K.length = n) (hT : T.length = m) (hr : Row 2 w lo hi u n (flat2 K)) (hr' : Row 3 w lo' hi' v m (flat T)) (hh : hi <= w.heap.size) (hh' : hi' <= w.heap.size) :
    Calls Try.prog 103 #[.agg #[.int .i64 o, .int .i64 s, .int .i64 ag, u, v]] w fun e w' => ∃ rv, e = .returned rv /\ BRow 1 w' w.heap.size w'.heap.size rv (lbs o s ag K T).length (lbs o s ag K T) /\ Below w.heap.size w w' := by
  cases hv : lokB o s ag K T
  · rw [lbs_no hv]
    exact (slbytes_no o s ag lo hi lo' hi' n m u v K T w hK hT hr hr' hh hh' hv).mono fun e w' ⟨he, hb⟩ => ⟨_, he, ⟨rfl, .inl ⟨rfl, none, 0, rfl⟩⟩, hb⟩
  · rw [lbs_yes hv]
    have hl : (lby o s K T).length = 1 + 3 + 1 + 3 * n + 1 + 5 * m := by rw [lby_len, hK, hT]; omega
    rw [hl]
    have hbd := lok_bd hv
    exact (slbytes_yes o s ag lo hi lo' hi' n m u v K T w hK hT hr hr' hh hh' hv).mono fun e w' ⟨rv, he, ho⟩ => ⟨rv, he, ho.toBRow (by omega), ho.below⟩
theorem ilbytes_any (o s ag : Int) (lo hi lo' hi' n m : Nat) (u v : Value) (K : List Lk) (T : List Ed) (w : World) (hK : K.length = n) (hT : T.length = m) (hr : Row 2 w lo hi u n (flat2 K)) (hr' : Row 3 w lo' hi' v m (flat T)) (hh : hi <= w.heap.size) (hh' : hi' <= w.heap.size) :
    Calls Try.prog 93 #[.agg #[.int .i64 o, .int .i64 s, .int .i64 ag, u, v]] w fun e w' => ∃ rv, e = .returned rv /\ BRow 1 w' w.heap.size w'.heap.size rv (lbs o s ag K T).length (lbs o s ag K T) /\ Below w.heap.size w w' := by
  cases hv : lokB o s ag K T
  · rw [lbs_no hv]
    exact (ilbytes_no o s ag lo hi lo' hi' n m u v K T w hK hT hr hr' hh hh' hv).mono fun e w' ⟨he, hb⟩ => ⟨_, he, ⟨rfl, .inl ⟨rfl, none, 0, rfl⟩⟩, hb⟩
  · rw [lbs_yes hv]
    have hl : (lby o s K T).length = 0 + 1 + 3 + 1 + 3 * n + 1 + 5 * m := by rw [lby_len, hK, hT]; omega
    rw [hl]
    have hbd := lok_bd hv
    exact (ilbytes_yes o s ag lo hi lo' hi' n m u v K T w hK hT hr hr' hh hh' hv).mono fun e w' ⟨rv, he, ho⟩ => ⟨rv, he, ho.toBRow (by omega), ho.below⟩
def hsum (h x : Int) : Int := (257 * h + x + 1) % 1000003
def hsums (Z : List Int) : Int := Z.foldl hsum 1
theorem hsums_snoc {Z : List Int} {k : Nat} {z : Int} (h : Z[k]? = some z) : hsums (Z.take (k + 1)) = hsum (hsums (Z.take k)) z := by
  rw [take_snocI h]; unfold hsums; rw [List.foldl_append]; rfl
theorem hsum_bd (h x : Int) : 0 <= hsum h x /\ hsum h x <= 1000002 := by unfold hsum; omega
theorem hsums_bd (Z : List Int) : 0 <= hsums Z /\ hsums Z <= 1000002 := by
  unfold hsums
  suffices ∀ (L : List Int) (h : Int), 0 <= h -> h <= 1000002 -> 0 <= L.foldl hsum h /\ L.foldl hsum h <= 1000002 from this Z 1 (by decide) (by decide)
  intro L
  induction L with
  | nil => intro h h0 h1; exact ⟨h0, h1⟩
  | cons x L ih => intro h _ _; exact ih _ (hsum_bd h x).1 (hsum_bd h x).2
def lsum (o s ag : Int) (K : List Lk) (T : List Ed) : Int := if lokB o s ag K T = true then hsums (lby o s K T) else -1
theorem lsum_yes {o s ag : Int} {K : List Lk} {T : List Ed} (h : lokB o s ag K T = true) : lsum o s ag K T = hsums (lby o s K T) := if_pos h
theorem lsum_no {o s ag : Int} {K : List Lk} {T : List Ed} (h : lokB o s ag K T = false) : lsum o s ag K T = -1 := if_neg (by rw [h]; decide)
set_option maxRecDepth 100000 in
set_option maxHeartbeats 8000000 in
theorem slsum_no (o s ag : Int) (lo hi lo' hi' n m : Nat) (u v : Value) (K : List Lk) (T : List Ed) (w : World) (hK : K.length = n) (hT : T.length = m) (hr : Row 2 w lo hi u n (flat2 K)) (hr' : Row 3 w lo' hi' v m (flat T)) (hh : hi <= w.heap.size) (hh' : hi' <= w.heap.size) (hv : lokB o s ag K T = false) :
    Calls Try.prog 79 #[.agg #[.int .i64 o, .int .i64 s, .int .i64 ag, u, v]] w fun e w' => e = .returned (.int .i64 (lsum o s ag K T)) /\ Below w.heap.size w w' := by
  rw [lsum_no hv]
  have R0 := Lib.hid hr
  have R1 := Lib.hid hr'
  have HK := Lib.hid hK
  have HT := Lib.hid hT
  have Hv := Lib.hid hv
  obtain ⟨ad, cp, rfl⟩ := hr.slice
  obtain ⟨ae, cq, rfl⟩ := hr'.slice
  clear hr hr' hK hT hv
  go_enter Try.func79, Try.ntmps79
  go_wp2_with fail
  go_at_call 48
  refine (slok_any o s ag lo hi lo' hi' n m _ _ K T _ HK.out HT.out (R0.out.below (B := w.heap.size) (by go_grown) (by omega)) (R1.out.below (B := w.heap.size) (by go_grown) (by omega)) (by first | omega | (simp; omega)) (by first | omega | (simp; omega))).mono ?_
  rw [Hv.out]
  rintro e v1 ⟨rfl, hb1⟩
  have sz1 : w.heap.size + 1 <= v1.heap.size := by have hh := hb1.size; simp at hh; omega
  have st1 : Below w.heap.size w v1 := Below.trans (by go_grown) (hb1.mono (by simp))
  have c1_0 : v1.cell? ⟨w.heap.size, 0, none⟩ = some (.int .i64 o) := by rw [(bcell hb1).1 _ _ (by simp)]; first | (rw [new_at (by simp)]; rfl) | simp
  have c1_1 : v1.cell? ⟨w.heap.size, 1, none⟩ = some (.int .i64 s) := by rw [(bcell hb1).1 _ _ (by simp)]; first | (rw [new_at (by simp)]; rfl) | simp
  have c1_2 : v1.cell? ⟨w.heap.size, 2, none⟩ = some (.int .i64 ag) := by rw [(bcell hb1).1 _ _ (by simp)]; first | (rw [new_at (by simp)]; rfl) | simp
  have c1_3 : v1.cell? ⟨w.heap.size, 3, none⟩ = some (.slice ad n cp) := by rw [(bcell hb1).1 _ _ (by simp)]; first | (rw [new_at (by simp)]; rfl) | simp
  have c1_4 : v1.cell? ⟨w.heap.size, 4, none⟩ = some (.slice ae m cq) := by rw [(bcell hb1).1 _ _ (by simp)]; first | (rw [new_at (by simp)]; rfl) | simp
  have B1 : Hid (Below w.heap.size w v1) := st1
  have R1_0 : Hid (Row 2 v1 (lo) (hi) (.slice ad n cp) n (flat2 K)) := R0.out.below st1 (by omega)
  have R1_1 : Hid (Row 3 v1 (lo') (hi') (.slice ae m cq) m (flat T)) := R1.out.below st1 (by omega)
  have d1_0 : w.heap.size < v1.heap.size := by omega
  have e1_0 : w.heap.size ≠ v1.heap.size := by omega
  clear st1 R0 R1 hb1
  go_wp2_with fail
  go_ret
  exact ⟨rfl, B1.out⟩
set_option maxRecDepth 100000 in
set_option maxHeartbeats 8000000 in
theorem slsum_yes (o s ag : Int) (lo hi lo' hi' n m : Nat) (u v : Value) (K : List Lk) (T : List Ed) (w : World) (hK : K.length = n) (hT : T.length = m) (hr : Row 2 w lo hi u n (flat2 K)) (hr' : Row 3 w lo' hi' v m (flat T)) (hh : hi <= w.heap.size) (hh' : hi' <= w.heap.size) (hv : lokB o s ag K T = true) :
    Calls Try.prog 79 #[.agg #[.int .i64 o, .int .i64 s, .int .i64 ag, u, v]] w fun e w' => e = .returned (.int .i64 (lsum o s ag K T)) /\ Below w.heap.size w w' := by
  rw [lsum_yes hv]
  have hlz : lbs o s ag K T = lby o s K T := lbs_yes hv
  obtain ⟨Z, hZ⟩ : ∃ Z, Z = lby o s K T := ⟨_, rfl⟩
  have hzb : ∀ z ∈ Z, 0 <= z /\ z <= 255 := fun z hz => lby_byt (hZ ▸ hz)
  have hll : Z.length <= 66 := by rw [hZ, <- hlz]; exact lbs_len
  rw [<- hZ]
  rw [<- hZ] at hlz
  have HZ := Lib.hid hlz
  have HB := Lib.hid hzb
  clear hlz hzb hZ
  have R0 := Lib.hid hr
  have R1 := Lib.hid hr'
  have HK := Lib.hid hK
  have HT := Lib.hid hT
  have Hv := Lib.hid hv
  obtain ⟨ad, cp, rfl⟩ := hr.slice
  obtain ⟨ae, cq, rfl⟩ := hr'.slice
  clear hr hr' hK hT hv
  go_enter Try.func79, Try.ntmps79
  go_wp2_with fail
  go_at_call 48
  refine (slok_any o s ag lo hi lo' hi' n m _ _ K T _ HK.out HT.out (R0.out.below (B := w.heap.size) (by go_grown) (by omega)) (R1.out.below (B := w.heap.size) (by go_grown) (by omega)) (by first | omega | (simp; omega)) (by first | omega | (simp; omega))).mono ?_
  rw [Hv.out]
  rintro e v1 ⟨rfl, hb1⟩
  have sz1 : w.heap.size + 1 <= v1.heap.size := by have hh := hb1.size; simp at hh; omega
  have st1 : Below w.heap.size w v1 := Below.trans (by go_grown) (hb1.mono (by simp))
  have c1_0 : v1.cell? ⟨w.heap.size, 0, none⟩ = some (.int .i64 o) := by rw [(bcell hb1).1 _ _ (by simp)]; first | (rw [new_at (by simp)]; rfl) | simp
  have c1_1 : v1.cell? ⟨w.heap.size, 1, none⟩ = some (.int .i64 s) := by rw [(bcell hb1).1 _ _ (by simp)]; first | (rw [new_at (by simp)]; rfl) | simp
  have c1_2 : v1.cell? ⟨w.heap.size, 2, none⟩ = some (.int .i64 ag) := by rw [(bcell hb1).1 _ _ (by simp)]; first | (rw [new_at (by simp)]; rfl) | simp
  have c1_3 : v1.cell? ⟨w.heap.size, 3, none⟩ = some (.slice ad n cp) := by rw [(bcell hb1).1 _ _ (by simp)]; first | (rw [new_at (by simp)]; rfl) | simp
  have c1_4 : v1.cell? ⟨w.heap.size, 4, none⟩ = some (.slice ae m cq) := by rw [(bcell hb1).1 _ _ (by simp)]; first | (rw [new_at (by simp)]; rfl) | simp
  have B1 : Hid (Below w.heap.size w v1) := st1
  have R1_0 : Hid (Row 2 v1 (lo) (hi) (.slice ad n cp) n (flat2 K)) := R0.out.below st1 (by omega)
  have R1_1 : Hid (Row 3 v1 (lo') (hi') (.slice ae m cq) m (flat T)) := R1.out.below st1 (by omega)
  have d1_0 : w.heap.size < v1.heap.size := by omega
  have e1_0 : w.heap.size ≠ v1.heap.size := by omega
  clear st1 R0 R1 hb1
  go_wp2_with fail
  go_at_call 103
  refine (slbytes_any o s ag lo hi lo' hi' n m _ _ K T _ HK.out HT.out R1_0.out R1_1.out (by first | omega | (simp; omega)) (by first | omega | (simp; omega))).mono ?_
  rintro e v2 ⟨rv, rfl, hrb, hb2⟩
  have sz2 : v1.heap.size <= v2.heap.size := hb2.size
  have st2 : Below v1.heap.size v1 v2 := hb2
  have c2_0 : v2.cell? ⟨w.heap.size, 0, none⟩ = some (.int .i64 o) := by rw [(bcell st2).1 _ _ (by omega)]; exact c1_0
  have c2_1 : v2.cell? ⟨w.heap.size, 1, none⟩ = some (.int .i64 s) := by rw [(bcell st2).1 _ _ (by omega)]; exact c1_1
  have c2_2 : v2.cell? ⟨w.heap.size, 2, none⟩ = some (.int .i64 ag) := by rw [(bcell st2).1 _ _ (by omega)]; exact c1_2
  have c2_3 : v2.cell? ⟨w.heap.size, 3, none⟩ = some (.slice ad n cp) := by rw [(bcell st2).1 _ _ (by omega)]; exact c1_3
  have c2_4 : v2.cell? ⟨w.heap.size, 4, none⟩ = some (.slice ae m cq) := by rw [(bcell st2).1 _ _ (by omega)]; exact c1_4
  have B2 : Hid (Below w.heap.size w v2) := B1.out.trans (st2.mono (by omega))
  have R2_0 : Hid (Row 2 v2 (lo) (hi) (.slice ad n cp) n (flat2 K)) := R1_0.out.below st2 (by omega)
  have R2_1 : Hid (Row 3 v2 (lo') (hi') (.slice ae m cq) m (flat T)) := R1_1.out.below st2 (by omega)
  have d2_0 : w.heap.size < v2.heap.size := by omega
  have e2_0 : w.heap.size ≠ v2.heap.size := by omega
  clear d1_0 e1_0 c1_0 c1_1 c1_2 c1_3 c1_4 B1 st2 R1_0 R1_1 hb2
  rw [HZ.out] at hrb
  obtain ⟨a, c, rfl, _, _, hu⟩ := hrb.opened
  have HU := Lib.hid hu
  clear hrb hu
  obtain ⟨L, hL⟩ : ∃ L, L = Z.length := ⟨_, rfl⟩
  rw [<- hL]
  rw [<- hL] at HU
  have HL := Lib.hid hL
  have hl66 : L <= 66 := by omega
  clear hL
  go_wp2
  go_loop [3, 5] (fun h i => ∃ (k : Nat) (hh : Int), k <= L /\ i = .int .i64 (k : Int) /\ h = .int .i64 hh /\ 0 <= hh /\ hh <= 1000002 /\ Hid (hh = hsums (Z.take k))) (fun _ i => L - (intOf i).toNat)
  case atStart => exact ⟨0, 1, Nat.zero_le _, rfl, rfl, by decide, by decide, Lib.hid rfl⟩
  case round =>
    obtain ⟨k, hh, hk, rfl, rfl, hh0, hh1, hH⟩ := hrel
    by_cases hlt : k < L
    · obtain ⟨z, hz⟩ : ∃ x, Z[k]? = some x := ⟨Z[k]'(by rw [<- HL.out]; exact hlt), List.getElem?_eq_getElem _⟩
      have hzz := HB.out z (List.mem_of_getElem? hz)
      obtain ⟨zz0, zz1⟩ := hzz
      obtain ⟨g, rfl, hg, H⟩ := HU.out (by omega)
      have c0 := H _ _ hz
      have Hz := Lib.hid hz
      have q0 : (0 : Int) <= (k : Int) := by omega
      have q1 : (k : Int) < (L : Int) := by omega
      have hsb := hsum_bd hh z
      have HS : Hid (hsum hh z = hsums (Z.take (k + 1))) := by
        have h1 := hsums_snoc Hz.out
        rw [<- hH.out] at h1
        exact Lib.hid h1.symm
      unfold hsum at hsb HS
      clear hz H hH
      go_wp2
      go_round
      case rel => exact ⟨k + 1, _, by omega, by go_num, rfl, by omega, by omega, HS⟩
      case measure => simp [intOf]; omega
    · have hge : ¬ ((k : Int) < (L : Int)) := by omega
      obtain rfl : L = k := by omega
      have e0 : Z.take L = Z := List.take_of_length_le (by rw [<- HL.out]; exact Nat.le_refl _)
      rw [e0] at hH
      clear e0
      go_wp2
      go_ret
      exact ⟨ret_int hH.out, B2.out⟩
theorem slsum_any (o s ag : Int) (lo hi lo' hi' n m : Nat) (u v : Value) (K : List Lk) (T : List Ed) (w : World) (hK : K.length = n) (hT : T.length = m) (hr : Row 2 w lo hi u n (flat2 K)) (hr' : Row 3 w lo' hi' v m (flat T)) (hh : hi <= w.heap.size) (hh' : hi' <= w.heap.size) :
    Calls Try.prog 79 #[.agg #[.int .i64 o, .int .i64 s, .int .i64 ag, u, v]] w fun e w' => e = .returned (.int .i64 (lsum o s ag K T)) /\ Below w.heap.size w w' := by
  cases hv : lokB o s ag K T
  · exact slsum_no o s ag lo hi lo' hi' n m u v K T w hK hT hr hr' hh hh' hv
  · exact slsum_yes o s ag lo hi lo' hi' n m u v K T w hK hT hr hr' hh hh' hv
set_option maxRecDepth 100000 in
set_option maxHeartbeats 8000000 in
theorem ilsum_no (o s ag : Int) (lo hi lo' hi' n m : Nat) (u v : Value) (K : List Lk) (T : List Ed) (w : World) (hK : K.length = n) (hT : T.length = m) (hr : Row 2 w lo hi u n (flat2 K)) (hr' : Row 3 w lo' hi' v m (flat T)) (hh : hi <= w.heap.size) (hh' : hi' <= w.heap.size) (hv : lokB o s ag K T = false) :
    Calls Try.prog 53 #[.agg #[.int .i64 o, .int .i64 s, .int .i64 ag, u, v]] w fun e w' => e = .returned (.int .i64 (lsum o s ag K T)) /\ Below w.heap.size w w' := by
  rw [lsum_no hv]
  have R0 := Lib.hid hr
  have R1 := Lib.hid hr'
  have HK := Lib.hid hK
  have HT := Lib.hid hT
  have Hv := Lib.hid hv
  obtain ⟨ad, cp, rfl⟩ := hr.slice
  obtain ⟨ae, cq, rfl⟩ := hr'.slice
  clear hr hr' hK hT hv
  go_enter Try.func53, Try.ntmps53
  go_wp2_with fail
  go_at_call 56
  refine (ilok_any o s ag lo hi lo' hi' n m _ _ K T _ HK.out HT.out (R0.out.below (B := w.heap.size) (by go_grown) (by omega)) (R1.out.below (B := w.heap.size) (by go_grown) (by omega)) (by first | omega | (simp; omega)) (by first | omega | (simp; omega))).mono ?_
  rw [Hv.out]
  rintro e v1 ⟨rfl, hb1⟩
  have sz1 : w.heap.size + 1 <= v1.heap.size := by have hh := hb1.size; simp at hh; omega
  have st1 : Below w.heap.size w v1 := Below.trans (by go_grown) (hb1.mono (by simp))
  have c1_0 : v1.cell? ⟨w.heap.size, 0, none⟩ = some (.int .i64 o) := by rw [(bcell hb1).1 _ _ (by simp)]; first | (rw [new_at (by simp)]; rfl) | simp
  have c1_1 : v1.cell? ⟨w.heap.size, 1, none⟩ = some (.int .i64 s) := by rw [(bcell hb1).1 _ _ (by simp)]; first | (rw [new_at (by simp)]; rfl) | simp
  have c1_2 : v1.cell? ⟨w.heap.size, 2, none⟩ = some (.int .i64 ag) := by rw [(bcell hb1).1 _ _ (by simp)]; first | (rw [new_at (by simp)]; rfl) | simp
  have c1_3 : v1.cell? ⟨w.heap.size, 3, none⟩ = some (.slice ad n cp) := by rw [(bcell hb1).1 _ _ (by simp)]; first | (rw [new_at (by simp)]; rfl) | simp
  have c1_4 : v1.cell? ⟨w.heap.size, 4, none⟩ = some (.slice ae m cq) := by rw [(bcell hb1).1 _ _ (by simp)]; first | (rw [new_at (by simp)]; rfl) | simp
  have B1 : Hid (Below w.heap.size w v1) := st1
  have R1_0 : Hid (Row 2 v1 (lo) (hi) (.slice ad n cp) n (flat2 K)) := R0.out.below st1 (by omega)
  have R1_1 : Hid (Row 3 v1 (lo') (hi') (.slice ae m cq) m (flat T)) := R1.out.below st1 (by omega)
  have d1_0 : w.heap.size < v1.heap.size := by omega
  have e1_0 : w.heap.size ≠ v1.heap.size := by omega
  clear st1 R0 R1 hb1
  go_wp2_with fail
  go_ret
  exact ⟨rfl, B1.out⟩
set_option maxRecDepth 100000 in
set_option maxHeartbeats 8000000 in
theorem ilsum_yes (o s ag : Int) (lo hi lo' hi' n m : Nat) (u v : Value) (K : List Lk) (T : List Ed) (w : World) (hK : K.length = n) (hT : T.length = m) (hr : Row 2 w lo hi u n (flat2 K)) (hr' : Row 3 w lo' hi' v m (flat T)) (hh : hi <= w.heap.size) (hh' : hi' <= w.heap.size) (hv : lokB o s ag K T = true) :
    Calls Try.prog 53 #[.agg #[.int .i64 o, .int .i64 s, .int .i64 ag, u, v]] w fun e w' => e = .returned (.int .i64 (lsum o s ag K T)) /\ Below w.heap.size w w' := by
  rw [lsum_yes hv]
  have hlz : lbs o s ag K T = lby o s K T := lbs_yes hv
  obtain ⟨Z, hZ⟩ : ∃ Z, Z = lby o s K T := ⟨_, rfl⟩
  have hzb : ∀ z ∈ Z, 0 <= z /\ z <= 255 := fun z hz => lby_byt (hZ ▸ hz)
  have hll : Z.length <= 66 := by rw [hZ, <- hlz]; exact lbs_len
  rw [<- hZ]
  rw [<- hZ] at hlz
  have HZ := Lib.hid hlz
  have HB := Lib.hid hzb
  clear hlz hzb hZ
  have R0 := Lib.hid hr
  have R1 := Lib.hid hr'
  have HK := Lib.hid hK
  have HT := Lib.hid hT
  have Hv := Lib.hid hv
  obtain ⟨ad, cp, rfl⟩ := hr.slice
  obtain ⟨ae, cq, rfl⟩ := hr'.slice
  clear hr hr' hK hT hv
  go_enter Try.func53, Try.ntmps53
  go_wp2_with fail
  go_at_call 56
  refine (ilok_any o s ag lo hi lo' hi' n m _ _ K T _ HK.out HT.out (R0.out.below (B := w.heap.size) (by go_grown) (by omega)) (R1.out.below (B := w.heap.size) (by go_grown) (by omega)) (by first | omega | (simp; omega)) (by first | omega | (simp; omega))).mono ?_
  rw [Hv.out]
  rintro e v1 ⟨rfl, hb1⟩
  have sz1 : w.heap.size + 1 <= v1.heap.size := by have hh := hb1.size; simp at hh; omega
  have st1 : Below w.heap.size w v1 := Below.trans (by go_grown) (hb1.mono (by simp))
  have c1_0 : v1.cell? ⟨w.heap.size, 0, none⟩ = some (.int .i64 o) := by rw [(bcell hb1).1 _ _ (by simp)]; first | (rw [new_at (by simp)]; rfl) | simp
  have c1_1 : v1.cell? ⟨w.heap.size, 1, none⟩ = some (.int .i64 s) := by rw [(bcell hb1).1 _ _ (by simp)]; first | (rw [new_at (by simp)]; rfl) | simp
  have c1_2 : v1.cell? ⟨w.heap.size, 2, none⟩ = some (.int .i64 ag) := by rw [(bcell hb1).1 _ _ (by simp)]; first | (rw [new_at (by simp)]; rfl) | simp
  have c1_3 : v1.cell? ⟨w.heap.size, 3, none⟩ = some (.slice ad n cp) := by rw [(bcell hb1).1 _ _ (by simp)]; first | (rw [new_at (by simp)]; rfl) | simp
  have c1_4 : v1.cell? ⟨w.heap.size, 4, none⟩ = some (.slice ae m cq) := by rw [(bcell hb1).1 _ _ (by simp)]; first | (rw [new_at (by simp)]; rfl) | simp
  have B1 : Hid (Below w.heap.size w v1) := st1
  have R1_0 : Hid (Row 2 v1 (lo) (hi) (.slice ad n cp) n (flat2 K)) := R0.out.below st1 (by omega)
  have R1_1 : Hid (Row 3 v1 (lo') (hi') (.slice ae m cq) m (flat T)) := R1.out.below st1 (by omega)
  have d1_0 : w.heap.size < v1.heap.size := by omega
  have e1_0 : w.heap.size ≠ v1.heap.size := by omega
  clear st1 R0 R1 hb1
  go_wp2_with fail
  go_at_call 93
  refine (ilbytes_any o s ag lo hi lo' hi' n m _ _ K T _ HK.out HT.out R1_0.out R1_1.out (by first | omega | (simp; omega)) (by first | omega | (simp; omega))).mono ?_
  rintro e v2 ⟨rv, rfl, hrb, hb2⟩
  have sz2 : v1.heap.size <= v2.heap.size := hb2.size
  have st2 : Below v1.heap.size v1 v2 := hb2
  have c2_0 : v2.cell? ⟨w.heap.size, 0, none⟩ = some (.int .i64 o) := by rw [(bcell st2).1 _ _ (by omega)]; exact c1_0
  have c2_1 : v2.cell? ⟨w.heap.size, 1, none⟩ = some (.int .i64 s) := by rw [(bcell st2).1 _ _ (by omega)]; exact c1_1
  have c2_2 : v2.cell? ⟨w.heap.size, 2, none⟩ = some (.int .i64 ag) := by rw [(bcell st2).1 _ _ (by omega)]; exact c1_2
  have c2_3 : v2.cell? ⟨w.heap.size, 3, none⟩ = some (.slice ad n cp) := by rw [(bcell st2).1 _ _ (by omega)]; exact c1_3
  have c2_4 : v2.cell? ⟨w.heap.size, 4, none⟩ = some (.slice ae m cq) := by rw [(bcell st2).1 _ _ (by omega)]; exact c1_4
  have B2 : Hid (Below w.heap.size w v2) := B1.out.trans (st2.mono (by omega))
  have R2_0 : Hid (Row 2 v2 (lo) (hi) (.slice ad n cp) n (flat2 K)) := R1_0.out.below st2 (by omega)
  have R2_1 : Hid (Row 3 v2 (lo') (hi') (.slice ae m cq) m (flat T)) := R1_1.out.below st2 (by omega)
  have d2_0 : w.heap.size < v2.heap.size := by omega
  have e2_0 : w.heap.size ≠ v2.heap.size := by omega
  clear d1_0 e1_0 c1_0 c1_1 c1_2 c1_3 c1_4 B1 st2 R1_0 R1_1 hb2
  rw [HZ.out] at hrb
  obtain ⟨a, c, rfl, _, _, hu⟩ := hrb.opened
  have HU := Lib.hid hu
  clear hrb hu
  obtain ⟨L, hL⟩ : ∃ L, L = Z.length := ⟨_, rfl⟩
  rw [<- hL]
  rw [<- hL] at HU
  have HL := Lib.hid hL
  have hl66 : L <= 66 := by omega
  clear hL
  go_wp2
  go_loop [3, 12] (fun h i => ∃ (k : Nat) (hh : Int), k <= L /\ i = .int .i64 (k : Int) /\ h = .int .i64 hh /\ 0 <= hh /\ hh <= 1000002 /\ Hid (hh = hsums (Z.take k))) (fun _ i => L - (intOf i).toNat)
  case atStart => exact ⟨0, 1, Nat.zero_le _, rfl, rfl, by decide, by decide, Lib.hid rfl⟩
  case round =>
    obtain ⟨k, hh, hk, rfl, rfl, hh0, hh1, hH⟩ := hrel
    by_cases hlt : k < L
    · obtain ⟨z, hz⟩ : ∃ x, Z[k]? = some x := ⟨Z[k]'(by rw [<- HL.out]; exact hlt), List.getElem?_eq_getElem _⟩
      have hzz := HB.out z (List.mem_of_getElem? hz)
      obtain ⟨zz0, zz1⟩ := hzz
      obtain ⟨g, rfl, hg, H⟩ := HU.out (by omega)
      have c0 := H _ _ hz
      have Hz := Lib.hid hz
      have q0 : (0 : Int) <= (k : Int) := by omega
      have q1 : (k : Int) < (L : Int) := by omega
      have hsb := hsum_bd hh z
      have HS : Hid (hsum hh z = hsums (Z.take (k + 1))) := by
        have h1 := hsums_snoc Hz.out
        rw [<- hH.out] at h1
        exact Lib.hid h1.symm
      unfold hsum at hsb HS
      clear hz H hH
      go_wp2
      go_round
      case rel => exact ⟨k + 1, _, by omega, by go_num, rfl, by omega, by omega, HS⟩
      case measure => simp [intOf]; omega
    · have hge : ¬ ((k : Int) < (L : Int)) := by omega
      obtain rfl : L = k := by omega
      have e0 : Z.take L = Z := List.take_of_length_le (by rw [<- HL.out]; exact Nat.le_refl _)
      rw [e0] at hH
      clear e0
      go_wp2
      go_ret
      exact ⟨ret_int hH.out, B2.out⟩
theorem ilsum_any (o s ag : Int) (lo hi lo' hi' n m : Nat) (u v : Value) (K : List Lk) (T : List Ed) (w : World) (hK : K.length = n) (hT : T.length = m) (hr : Row 2 w lo hi u n (flat2 K)) (hr' : Row 3 w lo' hi' v m (flat T)) (hh : hi <= w.heap.size) (hh' : hi' <= w.heap.size) :
    Calls Try.prog 53 #[.agg #[.int .i64 o, .int .i64 s, .int .i64 ag, u, v]] w fun e w' => e = .returned (.int .i64 (lsum o s ag K T)) /\ Below w.heap.size w w' := by
  cases hv : lokB o s ag K T
  · exact ilsum_no o s ag lo hi lo' hi' n m u v K T w hK hT hr hr' hh hh' hv
  · exact ilsum_yes o s ag lo hi lo' hi' n m u v K T w hK hT hr hr' hh hh' hv
end Go.Proofs.Ytfpafjdakipccaa
