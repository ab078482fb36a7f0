/- An advertisement as bytes, by the program. -/
import Derived.Test.YtfpafjdakipccaaX6
import Derived.Test.YtfpafjdakipccaaX4
namespace Go.Proofs.Ytfpafjdakipccaa
open Go.RowKit
theorem own_ne {B w : World} {v : Value} {n b : Nat} {X : List Value} (h : Own 5 1 B w v n X) (hb : w.heap.size <= b) : some b ≠ v.ownBlock := fun e => by
  have := (h.row.lt b e.symm).2
  omega
theorem AppP.ne {B w wr : World} {v0 v : Value} {n b : Nat} {X : List Value} (h : AppP B w v0 n X wr v) (hb : b < w.heap.size) (hne : some b ≠ v0.ownBlock) : some b ≠ v.ownBlock := fun e => by
  rcases h.at_ b e.symm with h1 | h1
  · exact hne h1.symm
  · omega
def kb (l : Lk) : List Int := nb 1 l.1 ++ nb 2 l.2
def kbs (L : List Lk) : List Int := L.flatMap kb
def tb (t : Ed) : List Int := nb 2 t.1 ++ nb 1 t.2.1 ++ nb 2 t.2.2
def tbs (L : List Ed) : List Int := L.flatMap tb
theorem kb_len (l : Lk) : (kb l).length = 3 := by simp [kb, nb_len]
theorem tb_len (l : Ed) : (tb l).length = 5 := by simp [tb, nb_len]
theorem kbs_len : ∀ L : List Lk, (kbs L).length = 3 * L.length
  | [] => rfl
  | l :: L => by
    have := kbs_len L
    unfold kbs at this ⊢
    rw [List.flatMap_cons, List.length_append, kb_len, this, List.length_cons]
    omega
theorem tbs_len : ∀ L : List Ed, (tbs L).length = 5 * L.length
  | [] => rfl
  | l :: L => by
    have := tbs_len L
    unfold tbs at this ⊢
    rw [List.flatMap_cons, List.length_append, tb_len, this, List.length_cons]
    omega
theorem kbs_take {L : List Lk} {k : Nat} {p : Lk} (h : L[k]? = some p) : kbs (L.take (k + 1)) = kbs (L.take k) ++ kb p := by
  rw [take_snoc2 h]; simp [kbs]
theorem tbs_take {L : List Ed} {k : Nat} {p : Ed} (h : L[k]? = some p) : tbs (L.take (k + 1)) = tbs (L.take k) ++ tb p := by
  rw [take_snoc3 h]; simp [tbs]
def lby1 (o s : Int) (n : Nat) : List Int := nb 1 o ++ nb 3 s ++ nb 1 (n : Int)
def lby (o s : Int) (K : List Lk) (T : List Ed) : List Int := lby1 o s K.length ++ kbs K ++ nb 1 (T.length : Int) ++ tbs T
theorem lby_len (o s : Int) (K : List Lk) (T : List Ed) : (lby o s K T).length = 6 + 3 * K.length + 5 * T.length := by
  simp only [lby, lby1, List.length_append, nb_len, kbs_len, tbs_len]; omega
set_option maxRecDepth 100000 in
set_option maxHeartbeats 8000000 in
theorem ilbytes_no (o s ag : Int) (lo hi lo' hi' n m : Nat) (u v : Value) (K : List Lk) (T : List Ed) (w : World) (hK : K.length = n) (hT : T.length = m) (hr : Row 2 w lo hi u n (flat2 K)) (hr' : Row 3 w lo' hi' v m (flat T)) (hh : hi <= w.heap.size) (hh' : hi' <= w.heap.size) (hv : lokB o s ag K T = false) :
    Calls Try.prog 93 #[.agg #[.int .i64 o, .int .i64 s, .int .i64 ag, u, v]] w fun e w' => e = .returned (.slice none 0 0) /\ Below w.heap.size w w' := by
  have R0 := Lib.hid hr
  have R1 := Lib.hid hr'
  have HK := Lib.hid hK
  have HT := Lib.hid hT
  have Hv := Lib.hid hv
  obtain ⟨ad, cp, rfl⟩ := hr.slice
  obtain ⟨ae, cq, rfl⟩ := hr'.slice
  clear hr hr' hK hT hv
  go_enter Try.func93, Try.ntmps93
  go_wp2_with fail
  go_at_call 56
  refine (ilok_any o s ag lo hi lo' hi' n m _ _ K T _ HK.out HT.out (R0.out.below (B := w.heap.size) (by go_grown) (by omega)) (R1.out.below (B := w.heap.size) (by go_grown) (by omega)) (by first | omega | (simp; omega)) (by first | omega | (simp; omega))).mono ?_
  rw [Hv.out]
  rintro e v1 ⟨rfl, hb1⟩
  have sz1 : w.heap.size + 1 <= v1.heap.size := by have hh := hb1.size; simp at hh; omega
  have st1 : Below w.heap.size w v1 := Below.trans (by go_grown) (hb1.mono (by simp))
  have c1_0 : v1.cell? ⟨w.heap.size, 0, none⟩ = some (.int .i64 o) := by rw [(bcell hb1).1 _ _ (by simp)]; first | (rw [new_at (by simp)]; rfl) | simp
  have c1_1 : v1.cell? ⟨w.heap.size, 1, none⟩ = some (.int .i64 s) := by rw [(bcell hb1).1 _ _ (by simp)]; first | (rw [new_at (by simp)]; rfl) | simp
  have c1_2 : v1.cell? ⟨w.heap.size, 2, none⟩ = some (.int .i64 ag) := by rw [(bcell hb1).1 _ _ (by simp)]; first | (rw [new_at (by simp)]; rfl) | simp
  have c1_3 : v1.cell? ⟨w.heap.size, 3, none⟩ = some (.slice ad n cp) := by rw [(bcell hb1).1 _ _ (by simp)]; first | (rw [new_at (by simp)]; rfl) | simp
  have c1_4 : v1.cell? ⟨w.heap.size, 4, none⟩ = some (.slice ae m cq) := by rw [(bcell hb1).1 _ _ (by simp)]; first | (rw [new_at (by simp)]; rfl) | simp
  have B1 : Hid (Below w.heap.size w v1) := st1
  have R1_0 : Hid (Row 2 v1 (lo) (hi) (.slice ad n cp) n (flat2 K)) := R0.out.below st1 (by omega)
  have R1_1 : Hid (Row 3 v1 (lo') (hi') (.slice ae m cq) m (flat T)) := R1.out.below st1 (by omega)
  have d1_0 : w.heap.size < v1.heap.size := by omega
  have e1_0 : w.heap.size ≠ v1.heap.size := by omega
  clear st1 R0 R1 hb1
  go_wp2_with fail
  go_ret
  exact ⟨rfl, B1.out⟩
set_option maxRecDepth 100000 in
set_option maxHeartbeats 8000000 in
theorem ilbytes_yes (o s ag : Int) (lo hi lo' hi' n m : Nat) (u v : Value) (K : List Lk) (T : List Ed) (w : World) (hK : K.length = n) (hT : T.length = m) (hr : Row 2 w lo hi u n (flat2 K)) (hr' : Row 3 w lo' hi' v m (flat T)) (hh : hi <= w.heap.size) (hh' : hi' <= w.heap.size) (hv : lokB o s ag K T = true) :
    Calls Try.prog 93 #[.agg #[.int .i64 o, .int .i64 s, .int .i64 ag, u, v]] w fun e w' => ∃ rv, e = .returned rv /\ Own 5 1 w w' rv (0 + 1 + 3 + 1 + 3 * n + 1 + 5 * m) (byts (lby o s K T)) := by
  have hn10 : n <= 10 := by
    unfold lokB at hv
    rw [Bool.and_eq_true, Bool.and_eq_true] at hv
    have := lksB_len hv.1.2
    omega
  have hm6 : m <= 6 := by
    unfold lokB at hv
    rw [Bool.and_eq_true] at hv
    have := stsB_len hv.2
    omega
  have R0 := Lib.hid hr
  have R1 := Lib.hid hr'
  have HK := Lib.hid hK
  have HT := Lib.hid hT
  have Hv := Lib.hid hv
  obtain ⟨ad, cp, rfl⟩ := hr.slice
  obtain ⟨ae, cq, rfl⟩ := hr'.slice
  clear hr hr' hK hT hv
  go_enter Try.func93, Try.ntmps93
  go_wp2_with fail
  go_at_call 56
  refine (ilok_any o s ag lo hi lo' hi' n m _ _ K T _ HK.out HT.out (R0.out.below (B := w.heap.size) (by go_grown) (by omega)) (R1.out.below (B := w.heap.size) (by go_grown) (by omega)) (by first | omega | (simp; omega)) (by first | omega | (simp; omega))).mono ?_
  rw [Hv.out]
  rintro e v1 ⟨rfl, hb1⟩
  have sz1 : w.heap.size + 1 <= v1.heap.size := by have hh := hb1.size; simp at hh; omega
  have st1 : Below w.heap.size w v1 := Below.trans (by go_grown) (hb1.mono (by simp))
  have c1_0 : v1.cell? ⟨w.heap.size, 0, none⟩ = some (.int .i64 o) := by rw [(bcell hb1).1 _ _ (by simp)]; first | (rw [new_at (by simp)]; rfl) | simp
  have c1_1 : v1.cell? ⟨w.heap.size, 1, none⟩ = some (.int .i64 s) := by rw [(bcell hb1).1 _ _ (by simp)]; first | (rw [new_at (by simp)]; rfl) | simp
  have c1_2 : v1.cell? ⟨w.heap.size, 2, none⟩ = some (.int .i64 ag) := by rw [(bcell hb1).1 _ _ (by simp)]; first | (rw [new_at (by simp)]; rfl) | simp
  have c1_3 : v1.cell? ⟨w.heap.size, 3, none⟩ = some (.slice ad n cp) := by rw [(bcell hb1).1 _ _ (by simp)]; first | (rw [new_at (by simp)]; rfl) | simp
  have c1_4 : v1.cell? ⟨w.heap.size, 4, none⟩ = some (.slice ae m cq) := by rw [(bcell hb1).1 _ _ (by simp)]; first | (rw [new_at (by simp)]; rfl) | simp
  have B1 : Hid (Below w.heap.size w v1) := st1
  have R1_0 : Hid (Row 2 v1 (lo) (hi) (.slice ad n cp) n (flat2 K)) := R0.out.below st1 (by omega)
  have R1_1 : Hid (Row 3 v1 (lo') (hi') (.slice ae m cq) m (flat T)) := R1.out.below st1 (by omega)
  have d1_0 : w.heap.size < v1.heap.size := by omega
  have e1_0 : w.heap.size ≠ v1.heap.size := by omega
  clear st1 R0 R1 hb1
  have hwv : w.heap.size < v1.heap.size := by omega
  obtain ⟨ad', cp', e0, _, hu⟩ := R1_0.out.opened
  obtain ⟨ae', cq', e1, _, hv2⟩ := R1_1.out.opened
  obtain ⟨rfl, _, rfl⟩ := Value.slice.inj e0
  obtain ⟨rfl, _, rfl⟩ := Value.slice.inj e1
  have HU := Lib.hid hu
  have HV := Lib.hid hv2
  clear hu hv2 e0 e1
  have P0 := Lib.hid c1_0
  have P1 := Lib.hid c1_1
  have P2 := Lib.hid c1_2
  have P3 := Lib.hid c1_3
  have P4 := Lib.hid c1_4
  have O0 : Hid (Own 5 1 v1 v1 (.slice none 0 0) 0 (byts [])) := Lib.hid (Own.nil 5 1 v1)
  go_wp2_with fail
  go_at_call 120
  refine (appn_1 v1 _ (0) ([]) (o) _ O0.out (by omega)).mono ?_
  rintro e a1 ⟨rv, rfl, hp⟩
  obtain ⟨b1, d1, rfl⟩ := hp.own.slice
  have O1 := Lib.hid hp.own
  clear hp
  have p1_0 : a1.cell? ⟨w.heap.size, 0, none⟩ = some (.int .i64 o) := by rw [O1.out.below.cell (p := ⟨w.heap.size, 0, none⟩) hwv]; exact P0.out
  have p1_1 : a1.cell? ⟨w.heap.size, 1, none⟩ = some (.int .i64 s) := by rw [O1.out.below.cell (p := ⟨w.heap.size, 1, none⟩) hwv]; exact P1.out
  have p1_2 : a1.cell? ⟨w.heap.size, 2, none⟩ = some (.int .i64 ag) := by rw [O1.out.below.cell (p := ⟨w.heap.size, 2, none⟩) hwv]; exact P2.out
  have p1_3 : a1.cell? ⟨w.heap.size, 3, none⟩ = some (.slice ad n cp) := by rw [O1.out.below.cell (p := ⟨w.heap.size, 3, none⟩) hwv]; exact P3.out
  have p1_4 : a1.cell? ⟨w.heap.size, 4, none⟩ = some (.slice ae m cq) := by rw [O1.out.below.cell (p := ⟨w.heap.size, 4, none⟩) hwv]; exact P4.out
  have dd1 : w.heap.size < a1.heap.size := by have := O1.out.size; omega
  go_wp2_with fail
  go_at_call 120
  refine (appn_3 v1 _ (0 + 1) ([] ++ nb 1 (o)) (s) _ O1.out (by omega)).mono ?_
  rintro e a2 ⟨rv, rfl, hp⟩
  obtain ⟨b2, d2, rfl⟩ := hp.own.slice
  have O2 := Lib.hid hp.own
  clear hp
  have p2_0 : a2.cell? ⟨w.heap.size, 0, none⟩ = some (.int .i64 o) := by rw [O2.out.below.cell (p := ⟨w.heap.size, 0, none⟩) hwv]; exact P0.out
  have p2_1 : a2.cell? ⟨w.heap.size, 1, none⟩ = some (.int .i64 s) := by rw [O2.out.below.cell (p := ⟨w.heap.size, 1, none⟩) hwv]; exact P1.out
  have p2_2 : a2.cell? ⟨w.heap.size, 2, none⟩ = some (.int .i64 ag) := by rw [O2.out.below.cell (p := ⟨w.heap.size, 2, none⟩) hwv]; exact P2.out
  have p2_3 : a2.cell? ⟨w.heap.size, 3, none⟩ = some (.slice ad n cp) := by rw [O2.out.below.cell (p := ⟨w.heap.size, 3, none⟩) hwv]; exact P3.out
  have p2_4 : a2.cell? ⟨w.heap.size, 4, none⟩ = some (.slice ae m cq) := by rw [O2.out.below.cell (p := ⟨w.heap.size, 4, none⟩) hwv]; exact P4.out
  have dd2 : w.heap.size < a2.heap.size := by have := O2.out.size; omega
  go_wp2_with fail
  go_at_call 120
  refine (appn_1 v1 _ (0 + 1 + 3) ([] ++ nb 1 (o) ++ nb 3 (s)) ((n : Int)) _ O2.out (by omega)).mono ?_
  rintro e a3 ⟨rv, rfl, hp⟩
  obtain ⟨b3, d3, rfl⟩ := hp.own.slice
  have O3 := Lib.hid hp.own
  clear hp
  have p3_0 : a3.cell? ⟨w.heap.size, 0, none⟩ = some (.int .i64 o) := by rw [O3.out.below.cell (p := ⟨w.heap.size, 0, none⟩) hwv]; exact P0.out
  have p3_1 : a3.cell? ⟨w.heap.size, 1, none⟩ = some (.int .i64 s) := by rw [O3.out.below.cell (p := ⟨w.heap.size, 1, none⟩) hwv]; exact P1.out
  have p3_2 : a3.cell? ⟨w.heap.size, 2, none⟩ = some (.int .i64 ag) := by rw [O3.out.below.cell (p := ⟨w.heap.size, 2, none⟩) hwv]; exact P2.out
  have p3_3 : a3.cell? ⟨w.heap.size, 3, none⟩ = some (.slice ad n cp) := by rw [O3.out.below.cell (p := ⟨w.heap.size, 3, none⟩) hwv]; exact P3.out
  have p3_4 : a3.cell? ⟨w.heap.size, 4, none⟩ = some (.slice ae m cq) := by rw [O3.out.below.cell (p := ⟨w.heap.size, 4, none⟩) hwv]; exact P4.out
  have dd3 : w.heap.size < a3.heap.size := by have := O3.out.size; omega
  go_wp2
  go_loopw [3, 26] (fun b i wr => ∃ k : Nat, k <= n /\ i = .int .i64 (k : Int) /\ Hid (Own 5 1 v1 wr b (0 + 1 + 3 + 1 + 3 * k) (byts ([] ++ nb 1 (o) ++ nb 3 (s) ++ nb 1 ((n : Int)) ++ kbs (K.take k))))) (fun _ i _ => n - (intOf i).toNat)
  case atStart => exact ⟨0, Nat.zero_le _, rfl, by rw [List.take_zero]; show Hid (Own _ _ _ _ _ _ (byts ([] ++ nb 1 (o) ++ nb 3 (s) ++ nb 1 ((n : Int)) ++ []))); rw [List.append_nil]; exact O3⟩
  case round =>
    clear O3 p1_0 p1_1 p1_2 p1_3 p1_4 p2_0 p2_1 p2_2 p2_3 p2_4 p3_0 p3_1 p3_2 p3_3 p3_4
    obtain ⟨k, hk, rfl, hO⟩ := hrel
    obtain ⟨ba, bc, rfl⟩ := hO.out.slice
    have hbs := hO.out.size
    have p0 : wr.cell? ⟨w.heap.size, 0, none⟩ = some (.int .i64 o) := by rw [hO.out.below.cell (p := ⟨w.heap.size, 0, none⟩) hwv]; exact P0.out
    have p1 : wr.cell? ⟨w.heap.size, 1, none⟩ = some (.int .i64 s) := by rw [hO.out.below.cell (p := ⟨w.heap.size, 1, none⟩) hwv]; exact P1.out
    have p2 : wr.cell? ⟨w.heap.size, 2, none⟩ = some (.int .i64 ag) := by rw [hO.out.below.cell (p := ⟨w.heap.size, 2, none⟩) hwv]; exact P2.out
    have p3 : wr.cell? ⟨w.heap.size, 3, none⟩ = some (.slice ad n cp) := by rw [hO.out.below.cell (p := ⟨w.heap.size, 3, none⟩) hwv]; exact P3.out
    have p4 : wr.cell? ⟨w.heap.size, 4, none⟩ = some (.slice ae m cq) := by rw [hO.out.below.cell (p := ⟨w.heap.size, 4, none⟩) hwv]; exact P4.out
    have hww : w.heap.size < wr.heap.size := by omega
    by_cases hlt : k < n
    · obtain ⟨r, hr⟩ : ∃ r, K[k]? = some r := ⟨K[k]'(by rw [HK.out]; exact hlt), List.getElem?_eq_getElem _⟩
      obtain ⟨a, c⟩ := r
      obtain ⟨r0, r1⟩ := flat2_at K k _ hr
      obtain ⟨q, rfl, hq, H⟩ := HU.out (by omega)
      have HL := Lib.hid hr
      have z0 : wr.cell? ⟨q, k * 2, none⟩ = some (.int .i64 a) := by rw [hO.out.below.cell (p := ⟨q, k * 2, none⟩) (by show q < v1.heap.size; omega)]; exact H _ _ r0
      have z1 : wr.cell? ⟨q, k * 2 + 1, none⟩ = some (.int .i64 c) := by rw [hO.out.below.cell (p := ⟨q, k * 2 + 1, none⟩) (by show q < v1.heap.size; omega)]; exact H _ _ r1
      have hqw : q < wr.heap.size := by omega
      have q0 : (0 : Int) <= (k : Int) := by omega
      have q1 : (k : Int) < (n : Int) := by omega
      clear r0 r1 hr H
      go_wp2_with fail
      go_at_call 120
      refine (appn_1 v1 _ (0 + 1 + 3 + 1 + 3 * k) ([] ++ nb 1 (o) ++ nb 3 (s) ++ nb 1 ((n : Int)) ++ kbs (K.take k)) (a) _ (hO.out.alloc _) (by omega)).mono ?_
      rintro e al1 ⟨rv, rfl, hp⟩
      obtain ⟨bl1, dl1, rfl⟩ := hp.own.slice
      have Ol1 := Lib.hid hp.own
      have nel1 : Hid (some wr.heap.size ≠ (Value.slice bl1 (0 + 1 + 3 + 1 + 3 * k + 1) dl1).ownBlock) := Lib.hid (hp.ne (by simp) (own_ne hO.out (Nat.le_refl _)))
      have xl1_0 : al1.cell? ⟨wr.heap.size, 0, none⟩ = some (.int .i64 a) := by rw [grown_cell hp.fr (by simp) (own_ne hO.out (Nat.le_refl _)), new_at rfl]; rfl
      have xl1_1 : al1.cell? ⟨wr.heap.size, 1, none⟩ = some (.int .i64 c) := by rw [grown_cell hp.fr (by simp) (own_ne hO.out (Nat.le_refl _)), new_at rfl]; rfl
      have dxl1 : wr.heap.size < al1.heap.size := by have hh := hp.fr.size; simp at hh; omega
      clear hp
      go_wp2_with fail
      go_at_call 120
      refine (appn_2 v1 _ (0 + 1 + 3 + 1 + 3 * k + 1) ([] ++ nb 1 (o) ++ nb 3 (s) ++ nb 1 ((n : Int)) ++ kbs (K.take k) ++ nb 1 (a)) (c) _ Ol1.out (by omega)).mono ?_
      rintro e al2 ⟨rv, rfl, hp⟩
      obtain ⟨bl2, dl2, rfl⟩ := hp.own.slice
      have Ol2 := Lib.hid hp.own
      have nel2 : Hid (some wr.heap.size ≠ (Value.slice bl2 (0 + 1 + 3 + 1 + 3 * k + 1 + 2) dl2).ownBlock) := Lib.hid (hp.ne dxl1 nel1.out)
      have xl2_0 : al2.cell? ⟨wr.heap.size, 0, none⟩ = some (.int .i64 a) := by rw [grown_cell hp.fr dxl1 nel1.out]; exact xl1_0
      have xl2_1 : al2.cell? ⟨wr.heap.size, 1, none⟩ = some (.int .i64 c) := by rw [grown_cell hp.fr dxl1 nel1.out]; exact xl1_1
      have dxl2 : wr.heap.size < al2.heap.size := Nat.lt_of_lt_of_le dxl1 hp.fr.size
      clear xl1_0 xl1_1 nel1 dxl1
      clear hp
      go_wp2_with fail
      have HE : Hid (Own 5 1 v1 al2 (.slice bl2 (0 + 1 + 3 + 1 + 3 * k + 1 + 2) dl2) (0 + 1 + 3 + 1 + 3 * (k + 1)) (byts ([] ++ nb 1 (o) ++ nb 3 (s) ++ nb 1 ((n : Int)) ++ kbs (K.take (k + 1))))) := by
        have hh := Ol2.out
        rw [List.append_assoc, List.append_assoc ([] ++ nb 1 (o) ++ nb 3 (s) ++ nb 1 ((n : Int)))] at hh
        rw [kbs_take HL.out]
        have e : 0 + 1 + 3 + 1 + 3 * (k + 1) = 0 + 1 + 3 + 1 + 3 * k + 1 + 2 := by omega
        rw [e]
        exact Lib.hid hh
      go_roundw
      case rel => exact ⟨k + 1, by omega, by go_num, HE⟩
      case measure => simp [intOf]; omega
    · have hge : ¬ ((k : Int) < (n : Int)) := by omega
      have ek : k = n := by omega
      rw [ek] at hO
      rw [ek]
      have e0 : K.take n = K := List.take_of_length_le (by rw [HK.out]; omega)
      rw [e0] at hO
      clear e0 hlt hge ek
      have hge : ¬ ((n : Int) < (n : Int)) := by omega
      have hnil : (List.flatMap kb K) = kbs K := rfl
      clear hnil
      go_wp2_with fail
      go_at_call 120
      refine (appn_1 v1 _ (0 + 1 + 3 + 1 + 3 * n) ([] ++ nb 1 (o) ++ nb 3 (s) ++ nb 1 ((n : Int)) ++ kbs K) ((m : Int)) _ hO.out (by omega)).mono ?_
      rintro e am1 ⟨rv, rfl, hp⟩
      obtain ⟨bm1, dm1, rfl⟩ := hp.own.slice
      have Om1 := Lib.hid hp.own
      clear hp
      have pm1_0 : am1.cell? ⟨w.heap.size, 0, none⟩ = some (.int .i64 o) := by rw [Om1.out.below.cell (p := ⟨w.heap.size, 0, none⟩) hwv]; exact P0.out
      have pm1_1 : am1.cell? ⟨w.heap.size, 1, none⟩ = some (.int .i64 s) := by rw [Om1.out.below.cell (p := ⟨w.heap.size, 1, none⟩) hwv]; exact P1.out
      have pm1_2 : am1.cell? ⟨w.heap.size, 2, none⟩ = some (.int .i64 ag) := by rw [Om1.out.below.cell (p := ⟨w.heap.size, 2, none⟩) hwv]; exact P2.out
      have pm1_3 : am1.cell? ⟨w.heap.size, 3, none⟩ = some (.slice ad n cp) := by rw [Om1.out.below.cell (p := ⟨w.heap.size, 3, none⟩) hwv]; exact P3.out
      have pm1_4 : am1.cell? ⟨w.heap.size, 4, none⟩ = some (.slice ae m cq) := by rw [Om1.out.below.cell (p := ⟨w.heap.size, 4, none⟩) hwv]; exact P4.out
      have ddm1 : w.heap.size < am1.heap.size := by have := Om1.out.size; omega
      go_wp2
      go_loopw [3, 47] (fun b i wr => ∃ k : Nat, k <= m /\ i = .int .i64 (k : Int) /\ Hid (Own 5 1 v1 wr b (0 + 1 + 3 + 1 + 3 * n + 1 + 5 * k) (byts ([] ++ nb 1 (o) ++ nb 3 (s) ++ nb 1 ((n : Int)) ++ kbs K ++ nb 1 ((m : Int)) ++ tbs (T.take k))))) (fun _ i _ => m - (intOf i).toNat)
      case atStart => exact ⟨0, Nat.zero_le _, rfl, by rw [List.take_zero]; show Hid (Own _ _ _ _ _ _ (byts ([] ++ nb 1 (o) ++ nb 3 (s) ++ nb 1 ((n : Int)) ++ kbs K ++ nb 1 ((m : Int)) ++ []))); rw [List.append_nil]; exact Om1⟩
      case round =>
        clear Om1 pm1_0 pm1_1 pm1_2 pm1_3 pm1_4 p0 p1 p2 p3 p4 hO hge
        obtain ⟨k, hk, rfl, hO⟩ := hrel
        obtain ⟨ba, bc, rfl⟩ := hO.out.slice
        have hbs := hO.out.size
        have p0 : wr.cell? ⟨w.heap.size, 0, none⟩ = some (.int .i64 o) := by rw [hO.out.below.cell (p := ⟨w.heap.size, 0, none⟩) hwv]; exact P0.out
        have p1 : wr.cell? ⟨w.heap.size, 1, none⟩ = some (.int .i64 s) := by rw [hO.out.below.cell (p := ⟨w.heap.size, 1, none⟩) hwv]; exact P1.out
        have p2 : wr.cell? ⟨w.heap.size, 2, none⟩ = some (.int .i64 ag) := by rw [hO.out.below.cell (p := ⟨w.heap.size, 2, none⟩) hwv]; exact P2.out
        have p3 : wr.cell? ⟨w.heap.size, 3, none⟩ = some (.slice ad n cp) := by rw [hO.out.below.cell (p := ⟨w.heap.size, 3, none⟩) hwv]; exact P3.out
        have p4 : wr.cell? ⟨w.heap.size, 4, none⟩ = some (.slice ae m cq) := by rw [hO.out.below.cell (p := ⟨w.heap.size, 4, none⟩) hwv]; exact P4.out
        have hww : w.heap.size < wr.heap.size := by omega
        by_cases hlt : k < m
        · obtain ⟨r, hr⟩ : ∃ r, T[k]? = some r := ⟨T[k]'(by rw [HT.out]; exact hlt), List.getElem?_eq_getElem _⟩
          obtain ⟨a, b, c⟩ := r
          obtain ⟨r0, r1, r2⟩ := flat_at T k _ hr
          obtain ⟨q, rfl, hq, H⟩ := HV.out (by omega)
          have HL := Lib.hid hr
          have z0 : wr.cell? ⟨q, k * 3, none⟩ = some (.int .i64 a) := by rw [hO.out.below.cell (p := ⟨q, k * 3, none⟩) (by show q < v1.heap.size; omega)]; exact H _ _ r0
          have z1 : wr.cell? ⟨q, k * 3 + 1, none⟩ = some (.int .i64 b) := by rw [hO.out.below.cell (p := ⟨q, k * 3 + 1, none⟩) (by show q < v1.heap.size; omega)]; exact H _ _ r1
          have z2 : wr.cell? ⟨q, k * 3 + 2, none⟩ = some (.int .i64 c) := by rw [hO.out.below.cell (p := ⟨q, k * 3 + 2, none⟩) (by show q < v1.heap.size; omega)]; exact H _ _ r2
          have hqw : q < wr.heap.size := by omega
          have q0 : (0 : Int) <= (k : Int) := by omega
          have q1 : (k : Int) < (m : Int) := by omega
          clear r0 r1 r2 hr H
          go_wp2_with fail
          go_at_call 120
          refine (appn_2 v1 _ (0 + 1 + 3 + 1 + 3 * n + 1 + 5 * k) ([] ++ nb 1 (o) ++ nb 3 (s) ++ nb 1 ((n : Int)) ++ kbs K ++ nb 1 ((m : Int)) ++ tbs (T.take k)) (a) _ (hO.out.alloc _) (by omega)).mono ?_
          rintro e at1 ⟨rv, rfl, hp⟩
          obtain ⟨bt1, dt1, rfl⟩ := hp.own.slice
          have Ot1 := Lib.hid hp.own
          have net1 : Hid (some wr.heap.size ≠ (Value.slice bt1 (0 + 1 + 3 + 1 + 3 * n + 1 + 5 * k + 2) dt1).ownBlock) := Lib.hid (hp.ne (by simp) (own_ne hO.out (Nat.le_refl _)))
          have xt1_0 : at1.cell? ⟨wr.heap.size, 0, none⟩ = some (.int .i64 a) := by rw [grown_cell hp.fr (by simp) (own_ne hO.out (Nat.le_refl _)), new_at rfl]; rfl
          have xt1_1 : at1.cell? ⟨wr.heap.size, 1, none⟩ = some (.int .i64 b) := by rw [grown_cell hp.fr (by simp) (own_ne hO.out (Nat.le_refl _)), new_at rfl]; rfl
          have xt1_2 : at1.cell? ⟨wr.heap.size, 2, none⟩ = some (.int .i64 c) := by rw [grown_cell hp.fr (by simp) (own_ne hO.out (Nat.le_refl _)), new_at rfl]; rfl
          have dxt1 : wr.heap.size < at1.heap.size := by have hh := hp.fr.size; simp at hh; omega
          clear hp
          go_wp2_with fail
          go_at_call 120
          refine (appn_1 v1 _ (0 + 1 + 3 + 1 + 3 * n + 1 + 5 * k + 2) ([] ++ nb 1 (o) ++ nb 3 (s) ++ nb 1 ((n : Int)) ++ kbs K ++ nb 1 ((m : Int)) ++ tbs (T.take k) ++ nb 2 (a)) (b) _ Ot1.out (by omega)).mono ?_
          rintro e at2 ⟨rv, rfl, hp⟩
          obtain ⟨bt2, dt2, rfl⟩ := hp.own.slice
          have Ot2 := Lib.hid hp.own
          have net2 : Hid (some wr.heap.size ≠ (Value.slice bt2 (0 + 1 + 3 + 1 + 3 * n + 1 + 5 * k + 2 + 1) dt2).ownBlock) := Lib.hid (hp.ne dxt1 net1.out)
          have xt2_0 : at2.cell? ⟨wr.heap.size, 0, none⟩ = some (.int .i64 a) := by rw [grown_cell hp.fr dxt1 net1.out]; exact xt1_0
          have xt2_1 : at2.cell? ⟨wr.heap.size, 1, none⟩ = some (.int .i64 b) := by rw [grown_cell hp.fr dxt1 net1.out]; exact xt1_1
          have xt2_2 : at2.cell? ⟨wr.heap.size, 2, none⟩ = some (.int .i64 c) := by rw [grown_cell hp.fr dxt1 net1.out]; exact xt1_2
          have dxt2 : wr.heap.size < at2.heap.size := Nat.lt_of_lt_of_le dxt1 hp.fr.size
          clear xt1_0 xt1_1 xt1_2 net1 dxt1
          clear hp
          go_wp2_with fail
          go_at_call 120
          refine (appn_2 v1 _ (0 + 1 + 3 + 1 + 3 * n + 1 + 5 * k + 2 + 1) ([] ++ nb 1 (o) ++ nb 3 (s) ++ nb 1 ((n : Int)) ++ kbs K ++ nb 1 ((m : Int)) ++ tbs (T.take k) ++ nb 2 (a) ++ nb 1 (b)) (c) _ Ot2.out (by omega)).mono ?_
          rintro e at3 ⟨rv, rfl, hp⟩
          obtain ⟨bt3, dt3, rfl⟩ := hp.own.slice
          have Ot3 := Lib.hid hp.own
          have net3 : Hid (some wr.heap.size ≠ (Value.slice bt3 (0 + 1 + 3 + 1 + 3 * n + 1 + 5 * k + 2 + 1 + 2) dt3).ownBlock) := Lib.hid (hp.ne dxt2 net2.out)
          have xt3_0 : at3.cell? ⟨wr.heap.size, 0, none⟩ = some (.int .i64 a) := by rw [grown_cell hp.fr dxt2 net2.out]; exact xt2_0
          have xt3_1 : at3.cell? ⟨wr.heap.size, 1, none⟩ = some (.int .i64 b) := by rw [grown_cell hp.fr dxt2 net2.out]; exact xt2_1
          have xt3_2 : at3.cell? ⟨wr.heap.size, 2, none⟩ = some (.int .i64 c) := by rw [grown_cell hp.fr dxt2 net2.out]; exact xt2_2
          have dxt3 : wr.heap.size < at3.heap.size := Nat.lt_of_lt_of_le dxt2 hp.fr.size
          clear xt2_0 xt2_1 xt2_2 net2 dxt2
          clear hp
          go_wp2_with fail
          have HE : Hid (Own 5 1 v1 at3 (.slice bt3 (0 + 1 + 3 + 1 + 3 * n + 1 + 5 * k + 2 + 1 + 2) dt3) (0 + 1 + 3 + 1 + 3 * n + 1 + 5 * (k + 1)) (byts ([] ++ nb 1 (o) ++ nb 3 (s) ++ nb 1 ((n : Int)) ++ kbs K ++ nb 1 ((m : Int)) ++ tbs (T.take (k + 1))))) := by
            have hh := Ot3.out
            rw [List.append_assoc ([] ++ nb 1 (o) ++ nb 3 (s) ++ nb 1 ((n : Int)) ++ kbs K ++ nb 1 ((m : Int))), List.append_assoc ([] ++ nb 1 (o) ++ nb 3 (s) ++ nb 1 ((n : Int)) ++ kbs K ++ nb 1 ((m : Int))), List.append_assoc ([] ++ nb 1 (o) ++ nb 3 (s) ++ nb 1 ((n : Int)) ++ kbs K ++ nb 1 ((m : Int))), List.append_assoc (tbs (T.take k)), List.append_assoc (tbs (T.take k))] at hh
            rw [tbs_take HL.out]
            have e : 0 + 1 + 3 + 1 + 3 * n + 1 + 5 * (k + 1) = 0 + 1 + 3 + 1 + 3 * n + 1 + 5 * k + 2 + 1 + 2 := by omega
            rw [e]
            exact Lib.hid hh
          go_roundw
          case rel => exact ⟨k + 1, by omega, by go_num, HE⟩
          case measure => simp [intOf]; omega
        · have hge : ¬ ((k : Int) < (m : Int)) := by omega
          have ek : k = m := by omega
          rw [ek] at hO
          rw [ek]
          have e0 : T.take m = T := List.take_of_length_le (by rw [HT.out]; omega)
          rw [e0] at hO
          clear e0 hlt hge ek
          have hge : ¬ ((m : Int) < (m : Int)) := by omega
          go_wp2_with fail
          refine bodyPost_ret (v := .slice ba (0 + 1 + 3 + 1 + 3 * n + 1 + 5 * m) bc) (by simp [results, Try.results93, go_sem]) rfl ⟨_, rfl, ?_⟩
          have hh := hO.out.base B1.out
          unfold lby lby1
          rw [HK.out, HT.out]
          exact hh
end Go.Proofs.Ytfpafjdakipccaa
