/- Which of two advertisements is newer, by the program; what both refuse. -/
import Derived.Test.YtfpafjdakipccaaX1
import Derived.Test.YtfpafjdakipccaaX9
import Derived.Test.YtfpafjdakipccaaGw
namespace Go.Proofs.Ytfpafjdakipccaa
open Go.RowKit
def sgn (x : Int) : Int := if 0 < x then 1 else if x < 0 then -1 else 0
set_option maxHeartbeats 1000000 in
theorem sign_any (x : Int) (w : World) : Calls Try.prog 99 #[.int .i64 x] w fun e w' => e = .returned (.int .i64 (sgn x)) /\ w = w' := by
  unfold sgn
  by_cases h : 0 < x
  · rw [if_pos h]
    go_enter Try.func99, Try.ntmps99
    go_wp2
    go_ret
    exact ⟨rfl, rfl⟩
  · rw [if_neg h]
    by_cases h2 : x < 0
    · rw [if_pos h2]
      go_enter Try.func99, Try.ntmps99
      go_wp2
      go_ret
      exact ⟨rfl, rfl⟩
    · rw [if_neg h2]
      go_enter Try.func99, Try.ntmps99
      go_wp2
      go_ret
      exact ⟨rfl, rfl⟩
def ageN (a b : Int) : Int := if a = b then 0 else if a = 60 ∨ b = 60 then sgn (a - b) else if 10 < a - b ∨ 10 < b - a then sgn (b - a) else 0
theorem cmpI_sgn (a b : Int) : cmpI a b = sgn (a - b) := by unfold cmpI sgn; split <;> split <;> (try split) <;> (try split) <;> omega
set_option maxHeartbeats 2000000 in
theorem nage_any (a b : Int) (w : World) (a0 : 0 <= a) (a1 : a <= 60) (b0 : 0 <= b) (b1 : b <= 60) : Calls Try.prog 128 #[.int .i64 a, .int .i64 b] w fun e w' => e = .returned (.int .i64 (ageN a b)) /\ w = w' := by
  by_cases h1 : a = 60
  · subst h1
    by_cases h2 : b = 60
    · subst h2
      have hv : Hid (ageN 60 60 = 0) := Lib.hid (by decide)
      go_enter Try.func128, Try.ntmps128
      go_wp2
      go_ret
      exact ⟨by rw [hv.out]; rfl, rfl⟩
    · have hv : Hid (ageN 60 b = cmpI 60 b) := Lib.hid (by rw [cmpI_sgn]; unfold ageN; rw [if_neg (by omega), if_pos (.inl rfl)])
      have f1 : (b == 60) = false := by simp [h2]
      have Hh := Lib.hid h2
      clear h2
      go_enter Try.func128, Try.ntmps128
      go_wp2_with fail
      go_at_call 127
      refine (cmp_any 60 b _).mono ?_
      rintro e w' ⟨rfl, rfl⟩
      go_wp2
      go_ret
      exact ⟨by rw [hv.out]; rfl, rfl⟩
  · have f0 : (a == 60) = false := by simp [h1]
    by_cases h2 : b = 60
    · subst h2
      have hv : Hid (ageN a 60 = cmpI a 60) := Lib.hid (by rw [cmpI_sgn]; unfold ageN; rw [if_neg (by omega), if_pos (.inr rfl)])
      have Hh := Lib.hid h1
      clear h1
      go_enter Try.func128, Try.ntmps128
      go_wp2_with fail
      go_at_call 127
      refine (cmp_any a 60 _).mono ?_
      rintro e w' ⟨rfl, rfl⟩
      go_wp2
      go_ret
      exact ⟨by rw [hv.out]; rfl, rfl⟩
    · have f1 : (b == 60) = false := by simp [h2]
      by_cases hab : a < b
      · have hba : ¬ b < a := by omega
        by_cases h3 : 10 < b - a
        · skip
          have hv : Hid (ageN a b = cmpI b a) := Lib.hid (by rw [cmpI_sgn]; unfold ageN; rw [if_neg (by omega), if_neg (by omega), if_pos (by omega)])
          have Hh := Lib.hid (And.intro h1 h2)
          clear h1 h2
          go_enter Try.func128, Try.ntmps128
          go_wp2_with fail
          go_at_call 127
          refine (cmp_any b a _).mono ?_
          rintro e w' ⟨rfl, rfl⟩
          go_wp2
          go_ret
          exact ⟨by rw [hv.out]; rfl, rfl⟩
        · skip
          have hv : Hid (ageN a b = 0) := Lib.hid (by unfold ageN; rw [if_neg (by omega), if_neg (by omega), if_neg (by omega)])
          have Hh := Lib.hid (And.intro h1 h2)
          clear h1 h2
          go_enter Try.func128, Try.ntmps128
          go_wp2
          go_ret
          exact ⟨by rw [hv.out]; rfl, rfl⟩
      · by_cases hba : b < a
        · by_cases h3 : 10 < a - b
          · skip
            have hv : Hid (ageN a b = cmpI b a) := Lib.hid (by rw [cmpI_sgn]; unfold ageN; rw [if_neg (by omega), if_neg (by omega), if_pos (by omega)])
            have Hh := Lib.hid (And.intro h1 h2)
            clear h1 h2
            go_enter Try.func128, Try.ntmps128
            go_wp2_with fail
            go_at_call 127
            refine (cmp_any b a _).mono ?_
            rintro e w' ⟨rfl, rfl⟩
            go_wp2
            go_ret
            exact ⟨by rw [hv.out]; rfl, rfl⟩
          · skip
            have hv : Hid (ageN a b = 0) := Lib.hid (by unfold ageN; rw [if_neg (by omega), if_neg (by omega), if_neg (by omega)])
            have Hh := Lib.hid (And.intro h1 h2)
            clear h1 h2
            go_enter Try.func128, Try.ntmps128
            go_wp2
            go_ret
            exact ⟨by rw [hv.out]; rfl, rfl⟩
        · have hv : Hid (ageN a b = 0) := Lib.hid (by unfold ageN; rw [if_pos (by omega)])
          have h3 : ¬ 10 < a - b := by omega
          have Hh := Lib.hid (And.intro h1 h2)
          clear h1 h2
          go_enter Try.func128, Try.ntmps128
          go_wp2
          go_ret
          exact ⟨by rw [hv.out]; rfl, rfl⟩
theorem rs10_keep {w w1 w2 : World} {b0 b1 b2 b3 b4 b5 b6 b7 b8 b9 o0 o1 o2 o3 o4 o5 o6 o7 o8 o9 : Nat} {v0 v1 v2 v3 v4 v5 v6 v7 v8 v9 : Value} (l0 : b0 < w.heap.size) (l1 : b1 < w.heap.size) (l2 : b2 < w.heap.size) (l3 : b3 < w.heap.size) (l4 : b4 < w.heap.size) (l5 : b5 < w.heap.size) (l6 : b6 < w.heap.size) (l7 : b7 < w.heap.size) (l8 : b8 < w.heap.size) (l9 : b9 < w.heap.size) (hb : Below w.heap.size w1 w2) (h : w1.cell? ⟨b0, o0, none⟩ = some v0 /\ w1.cell? ⟨b1, o1, none⟩ = some v1 /\ w1.cell? ⟨b2, o2, none⟩ = some v2 /\ w1.cell? ⟨b3, o3, none⟩ = some v3 /\ w1.cell? ⟨b4, o4, none⟩ = some v4 /\ w1.cell? ⟨b5, o5, none⟩ = some v5 /\ w1.cell? ⟨b6, o6, none⟩ = some v6 /\ w1.cell? ⟨b7, o7, none⟩ = some v7 /\ w1.cell? ⟨b8, o8, none⟩ = some v8 /\ w1.cell? ⟨b9, o9, none⟩ = some v9 /\ w.heap.size <= w1.heap.size /\ Below w.heap.size w w1) : w2.cell? ⟨b0, o0, none⟩ = some v0 /\ w2.cell? ⟨b1, o1, none⟩ = some v1 /\ w2.cell? ⟨b2, o2, none⟩ = some v2 /\ w2.cell? ⟨b3, o3, none⟩ = some v3 /\ w2.cell? ⟨b4, o4, none⟩ = some v4 /\ w2.cell? ⟨b5, o5, none⟩ = some v5 /\ w2.cell? ⟨b6, o6, none⟩ = some v6 /\ w2.cell? ⟨b7, o7, none⟩ = some v7 /\ w2.cell? ⟨b8, o8, none⟩ = some v8 /\ w2.cell? ⟨b9, o9, none⟩ = some v9 /\ w.heap.size <= w2.heap.size /\ Below w.heap.size w w2 := by
  obtain ⟨h0, h1, h2, h3, h4, h5, h6, h7, h8, h9, hs, hB⟩ := h
  have hz := hb.size
  exact ⟨by rw [hb.cell (p := ⟨b0, o0, none⟩) l0]; exact h0, by rw [hb.cell (p := ⟨b1, o1, none⟩) l1]; exact h1, by rw [hb.cell (p := ⟨b2, o2, none⟩) l2]; exact h2, by rw [hb.cell (p := ⟨b3, o3, none⟩) l3]; exact h3, by rw [hb.cell (p := ⟨b4, o4, none⟩) l4]; exact h4, by rw [hb.cell (p := ⟨b5, o5, none⟩) l5]; exact h5, by rw [hb.cell (p := ⟨b6, o6, none⟩) l6]; exact h6, by rw [hb.cell (p := ⟨b7, o7, none⟩) l7]; exact h7, by rw [hb.cell (p := ⟨b8, o8, none⟩) l8]; exact h8, by rw [hb.cell (p := ⟨b9, o9, none⟩) l9]; exact h9, by omega, hB.trans hb⟩
theorem rs10_start {w wr : World} {b0 b1 b2 b3 b4 b5 b6 b7 b8 b9 o0 o1 o2 o3 o4 o5 o6 o7 o8 o9 : Nat} {v0 v1 v2 v3 v4 v5 v6 v7 v8 v9 : Value} (h0 : wr.cell? ⟨b0, o0, none⟩ = some v0) (h1 : wr.cell? ⟨b1, o1, none⟩ = some v1) (h2 : wr.cell? ⟨b2, o2, none⟩ = some v2) (h3 : wr.cell? ⟨b3, o3, none⟩ = some v3) (h4 : wr.cell? ⟨b4, o4, none⟩ = some v4) (h5 : wr.cell? ⟨b5, o5, none⟩ = some v5) (h6 : wr.cell? ⟨b6, o6, none⟩ = some v6) (h7 : wr.cell? ⟨b7, o7, none⟩ = some v7) (h8 : wr.cell? ⟨b8, o8, none⟩ = some v8) (h9 : wr.cell? ⟨b9, o9, none⟩ = some v9) (hB : Below w.heap.size w wr) : wr.drew.cell? ⟨b0, o0, none⟩ = some v0 /\ wr.drew.cell? ⟨b1, o1, none⟩ = some v1 /\ wr.drew.cell? ⟨b2, o2, none⟩ = some v2 /\ wr.drew.cell? ⟨b3, o3, none⟩ = some v3 /\ wr.drew.cell? ⟨b4, o4, none⟩ = some v4 /\ wr.drew.cell? ⟨b5, o5, none⟩ = some v5 /\ wr.drew.cell? ⟨b6, o6, none⟩ = some v6 /\ wr.drew.cell? ⟨b7, o7, none⟩ = some v7 /\ wr.drew.cell? ⟨b8, o8, none⟩ = some v8 /\ wr.drew.cell? ⟨b9, o9, none⟩ = some v9 /\ w.heap.size <= wr.drew.heap.size /\ Below w.heap.size w wr.drew := ⟨h0, h1, h2, h3, h4, h5, h6, h7, h8, h9, hB.size, hB.drew⟩
theorem rs10_out {w w1 : World} {b0 b1 b2 b3 b4 b5 b6 b7 b8 b9 o0 o1 o2 o3 o4 o5 o6 o7 o8 o9 : Nat} {v0 v1 v2 v3 v4 v5 v6 v7 v8 v9 : Value} (h : w1.cell? ⟨b0, o0, none⟩ = some v0 /\ w1.cell? ⟨b1, o1, none⟩ = some v1 /\ w1.cell? ⟨b2, o2, none⟩ = some v2 /\ w1.cell? ⟨b3, o3, none⟩ = some v3 /\ w1.cell? ⟨b4, o4, none⟩ = some v4 /\ w1.cell? ⟨b5, o5, none⟩ = some v5 /\ w1.cell? ⟨b6, o6, none⟩ = some v6 /\ w1.cell? ⟨b7, o7, none⟩ = some v7 /\ w1.cell? ⟨b8, o8, none⟩ = some v8 /\ w1.cell? ⟨b9, o9, none⟩ = some v9 /\ w.heap.size <= w1.heap.size /\ Below w.heap.size w w1) : w.heap.size <= w1.heap.size /\ Below w.heap.size w w1 := h.2.2.2.2.2.2.2.2.2.2
def newN (o s ag o2 s2 ag2 : Int) (K : List Lk) (T : List Ed) (K2 : List Lk) (T2 : List Ed) : Int :=
  if lokB o s ag K T = true /\ lokB o2 s2 ag2 K2 T2 = true /\ o = o2 then
    if s ≠ s2 then sgn (s - s2) else if lsum o s ag K T ≠ lsum o2 s2 ag2 K2 T2 then sgn (lsum o s ag K T - lsum o2 s2 ag2 K2 T2) else ageN ag ag2
  else -2
theorem new_no {o s ag o2 s2 ag2 : Int} {K : List Lk} {T : List Ed} {K2 : List Lk} {T2 : List Ed} (h : lokB o s ag K T = false ∨ lokB o2 s2 ag2 K2 T2 = false ∨ o ≠ o2) : newN o s ag o2 s2 ag2 K T K2 T2 = -2 := by
  unfold newN
  refine if_neg (fun hh => ?_)
  obtain ⟨h1, h2, h3⟩ := hh
  rcases h with h | h | h
  · rw [h] at h1; cases h1
  · rw [h] at h2; cases h2
  · exact h h3
theorem lsum_bd {o s ag : Int} {K : List Lk} {T : List Ed} (h : lokB o s ag K T = true) : 0 <= lsum o s ag K T /\ lsum o s ag K T <= 1000002 := by
  rw [lsum_yes h]; exact hsums_bd _
def or3 (x y z : Int) : Int := if x = 0 then (if y = 0 then z else y) else x
theorem new_or {o s ag s2 ag2 : Int} {K : List Lk} {T : List Ed} {K2 : List Lk} {T2 : List Ed} (h1 : lokB o s ag K T = true) (h2 : lokB o s2 ag2 K2 T2 = true) : newN o s ag o s2 ag2 K T K2 T2 = or3 (cmpI s s2) (cmpI (lsum o s ag K T) (lsum o s2 ag2 K2 T2)) (ageN ag ag2) := by
  unfold newN or3
  rw [if_pos ⟨h1, h2, rfl⟩, cmpI_sgn, cmpI_sgn]
  have z : ∀ x : Int, sgn x = 0 ↔ x = 0 := fun x => by unfold sgn; split <;> (try split) <;> omega
  by_cases e : s = s2
  · rw [if_neg (by simp [e]), if_pos ((z _).2 (by omega))]
    by_cases e2 : lsum o s ag K T = lsum o s2 ag2 K2 T2
    · rw [if_neg (by simp [e2]), if_pos ((z _).2 (by omega))]
    · rw [if_pos e2, if_neg (fun hh => e2 (by have := (z _).1 hh; omega))]
  · rw [if_pos e, if_neg (fun hh => e (by have := (z _).1 hh; omega))]
set_option maxHeartbeats 2000000 in
theorem or3_any (g : Nat) (x y z : Int) (w : World) (h0 : w.cell? ⟨g, 0, none⟩ = some (.int .i64 x)) (h1 : w.cell? ⟨g, 1, none⟩ = some (.int .i64 y)) (h2 : w.cell? ⟨g, 2, none⟩ = some (.int .i64 z)) :
    Calls Try.prog 126 #[.slice (some ⟨g, 0, none⟩) 3 3] w fun e w' => e = .returned (.int .i64 (or3 x y z)) /\ w = w' := by
  unfold or3
  by_cases hx : x = 0
  · subst hx
    rw [if_pos rfl]
    by_cases hy : y = 0
    · subst hy
      rw [if_pos rfl]
      go_enter Try.func126, Try.ntmps126
      go_wp2
      go_loop [5, 8] (fun _ i => ∃ k : Nat, k <= 3 /\ i = .int .i64 (k : Int) /\ (k = 3 -> z = 0)) (fun _ i => 3 - (intOf i).toNat)
      case atStart => exact ⟨0, by omega, rfl, by omega⟩
      case round =>
        obtain ⟨k, hk, rfl, hz⟩ := hrel
        have hk3 : k = 0 ∨ k = 1 ∨ k = 2 ∨ k = 3 := by omega
        rcases hk3 with rfl | rfl | rfl | rfl
        · clear hz
          go_wp2
          go_round
          case rel => exact ⟨1, by omega, by go_num, by omega⟩
          case measure => simp [intOf]
        · clear hz
          go_wp2
          go_round
          case rel => exact ⟨2, by omega, by go_num, by omega⟩
          case measure => simp [intOf]
        · clear hz
          by_cases hz : z = 0
          · subst hz
            go_wp2
            go_round
            case rel => exact ⟨3, by omega, by go_num, by simp⟩
            case measure => simp [intOf]
          · have hzz : (z != 0) = true := by simp [hz]
            go_wp2
            go_ret
            exact ⟨rfl, rfl⟩
        · obtain rfl := hz rfl
          go_wp2
          go_ret
          exact ⟨rfl, rfl⟩
    · rw [if_neg hy]
      have hzz : (y != 0) = true := by simp [hy]
      go_enter Try.func126, Try.ntmps126
      go_wp2
      go_loop [5, 8] (fun _ i => ∃ k : Nat, k <= 1 /\ i = .int .i64 (k : Int)) (fun _ i => 3 - (intOf i).toNat)
      case atStart => exact ⟨0, by omega, rfl⟩
      case round =>
        obtain ⟨k, hk, rfl⟩ := hrel
        have hk3 : k = 0 ∨ k = 1 := by omega
        rcases hk3 with rfl | rfl
        · go_wp2
          go_round
          case rel => exact ⟨1, by omega, by go_num⟩
          case measure => simp [intOf]
        · go_wp2
          go_ret
          exact ⟨rfl, rfl⟩
  · rw [if_neg hx]
    have hz : (x != 0) = true := by simp [hx]
    go_enter Try.func126, Try.ntmps126
    go_wp2
    go_loop [5, 8] (fun _ i => i = .int .i64 0) (fun _ i => 3 - (intOf i).toNat)
    case atStart => exact rfl
    case round =>
      subst hrel
      go_wp2
      go_ret
      exact ⟨rfl, rfl⟩
set_option linter.unusedVariables false in
set_option maxRecDepth 100000 in
set_option maxHeartbeats 4000000 in
theorem inew_0 (o s ag o2 s2 ag2 : Int) (lo hi n m lo2 hi2 n2 m2 : Nat) (u v u2 v2 : Value) (K : List Lk) (T : List Ed) (K2 : List Lk) (T2 : List Ed) (w : World) (hK : K.length = n) (hT : T.length = m) (hK2 : K2.length = n2) (hT2 : T2.length = m2) (hr : LRow w lo hi u v n m (flat2 K) (flat T)) (hr2 : LRow w lo2 hi2 u2 v2 n2 m2 (flat2 K2) (flat T2)) (hh : hi <= w.heap.size) (hh2 : hi2 <= w.heap.size) (hv : lokB o s ag K T = false) :
    Calls Try.prog 102 #[.agg #[.int .i64 o, .int .i64 s, .int .i64 ag, u, v], .agg #[.int .i64 o2, .int .i64 s2, .int .i64 ag2, u2, v2]] w fun e w' => e = .returned (.int .i64 (newN o s ag o2 s2 ag2 K T K2 T2)) /\ Below w.heap.size w w' := by
  have Hn := Lib.hid (new_no (s2 := s2) (ag2 := ag2) (o2 := o2) (K2 := K2) (T2 := T2) (.inl hv))
  have Hv := Lib.hid hv
  clear hv
  have R0 := Lib.hid hr.fst
  have R1 := Lib.hid hr.snd
  have R2 := Lib.hid hr2.fst
  have R3 := Lib.hid hr2.snd
  have HK := Lib.hid hK
  have HT := Lib.hid hT
  have HK2 := Lib.hid hK2
  have HT2 := Lib.hid hT2
  obtain ⟨ad, cp, ae, cq, rfl, rfl⟩ := hr.slice
  obtain ⟨bd, dp, be, dq, rfl, rfl⟩ := hr2.slice
  clear hr hr2 hK hT hK2 hT2
  go_enter Try.func102, Try.ntmps102
  go_wp2_with fail
  go_at_call 56
  refine (ilok_any o s ag lo hi lo hi n m _ _ K T _ HK.out HT.out (R0.out.below (B := w.heap.size) (by go_grown) (by omega)) (R1.out.below (B := w.heap.size) (by go_grown) (by omega)) (by first | omega | (simp; omega)) (by first | omega | (simp; omega))).mono ?_
  rw [Hv.out]
  rintro e v1 ⟨rfl, hb1⟩
  have sz1 : w.heap.size + 2 <= v1.heap.size := by have hh := hb1.size; simp at hh; omega
  have st1 : Below w.heap.size w v1 := Below.trans (by go_grown) (hb1.mono (by simp <;> omega))
  have c1_0 : v1.cell? ⟨w.heap.size, 0, none⟩ = some (.int .i64 o) := by rw [(bcell hb1).1 _ _ (by simp <;> omega), old_box (by simp <;> omega)]; first | (rw [new_at (by simp)]; rfl) | simp
  have c1_1 : v1.cell? ⟨w.heap.size, 1, none⟩ = some (.int .i64 s) := by rw [(bcell hb1).1 _ _ (by simp <;> omega), old_box (by simp <;> omega)]; first | (rw [new_at (by simp)]; rfl) | simp
  have c1_2 : v1.cell? ⟨w.heap.size, 2, none⟩ = some (.int .i64 ag) := by rw [(bcell hb1).1 _ _ (by simp <;> omega), old_box (by simp <;> omega)]; first | (rw [new_at (by simp)]; rfl) | simp
  have c1_3 : v1.cell? ⟨w.heap.size, 3, none⟩ = some (.slice ad n cp) := by rw [(bcell hb1).1 _ _ (by simp <;> omega), old_box (by simp <;> omega)]; first | (rw [new_at (by simp)]; rfl) | simp
  have c1_4 : v1.cell? ⟨w.heap.size, 4, none⟩ = some (.slice ae m cq) := by rw [(bcell hb1).1 _ _ (by simp <;> omega), old_box (by simp <;> omega)]; first | (rw [new_at (by simp)]; rfl) | simp
  have c1_5 : v1.cell? ⟨w.heap.size + 1, 0, none⟩ = some (.int .i64 o2) := by rw [(bcell hb1).1 _ _ (by simp)]; first | (rw [new_at (by simp)]; rfl) | simp
  have c1_6 : v1.cell? ⟨w.heap.size + 1, 1, none⟩ = some (.int .i64 s2) := by rw [(bcell hb1).1 _ _ (by simp)]; first | (rw [new_at (by simp)]; rfl) | simp
  have c1_7 : v1.cell? ⟨w.heap.size + 1, 2, none⟩ = some (.int .i64 ag2) := by rw [(bcell hb1).1 _ _ (by simp)]; first | (rw [new_at (by simp)]; rfl) | simp
  have c1_8 : v1.cell? ⟨w.heap.size + 1, 3, none⟩ = some (.slice bd n2 dp) := by rw [(bcell hb1).1 _ _ (by simp)]; first | (rw [new_at (by simp)]; rfl) | simp
  have c1_9 : v1.cell? ⟨w.heap.size + 1, 4, none⟩ = some (.slice be m2 dq) := by rw [(bcell hb1).1 _ _ (by simp)]; first | (rw [new_at (by simp)]; rfl) | simp
  have B1 : Hid (Below w.heap.size w v1) := st1
  have R1_0 : Hid (Row 2 v1 (lo) (hi) (.slice ad n cp) n (flat2 K)) := R0.out.below st1 (by omega)
  have R1_1 : Hid (Row 3 v1 (lo) (hi) (.slice ae m cq) m (flat T)) := R1.out.below st1 (by omega)
  have R1_2 : Hid (Row 2 v1 (lo2) (hi2) (.slice bd n2 dp) n2 (flat2 K2)) := R2.out.below st1 (by omega)
  have R1_3 : Hid (Row 3 v1 (lo2) (hi2) (.slice be m2 dq) m2 (flat T2)) := R3.out.below st1 (by omega)
  have d1_0 : w.heap.size < v1.heap.size := by omega
  have e1_0 : w.heap.size ≠ v1.heap.size := by omega
  have d1_1 : w.heap.size + 1 < v1.heap.size := by omega
  have e1_1 : w.heap.size + 1 ≠ v1.heap.size := by omega
  clear st1 R0 R1 R2 R3 hb1
  go_wp2_with fail
  go_ret
  exact ⟨by rw [Hn.out]; rfl, B1.out⟩
set_option linter.unusedVariables false in
set_option maxRecDepth 100000 in
set_option maxHeartbeats 4000000 in
theorem inew_1 (o s ag o2 s2 ag2 : Int) (lo hi n m lo2 hi2 n2 m2 : Nat) (u v u2 v2 : Value) (K : List Lk) (T : List Ed) (K2 : List Lk) (T2 : List Ed) (w : World) (hK : K.length = n) (hT : T.length = m) (hK2 : K2.length = n2) (hT2 : T2.length = m2) (hr : LRow w lo hi u v n m (flat2 K) (flat T)) (hr2 : LRow w lo2 hi2 u2 v2 n2 m2 (flat2 K2) (flat T2)) (hh : hi <= w.heap.size) (hh2 : hi2 <= w.heap.size) (hv : lokB o s ag K T = true) (hv2 : lokB o2 s2 ag2 K2 T2 = false) :
    Calls Try.prog 102 #[.agg #[.int .i64 o, .int .i64 s, .int .i64 ag, u, v], .agg #[.int .i64 o2, .int .i64 s2, .int .i64 ag2, u2, v2]] w fun e w' => e = .returned (.int .i64 (newN o s ag o2 s2 ag2 K T K2 T2)) /\ Below w.heap.size w w' := by
  have Hn := Lib.hid (new_no (s := s) (ag := ag) (o := o) (K := K) (T := T) (.inr (.inl hv2)))
  have Hv := Lib.hid hv
  have Hv2 := Lib.hid hv2
  clear hv hv2
  have R0 := Lib.hid hr.fst
  have R1 := Lib.hid hr.snd
  have R2 := Lib.hid hr2.fst
  have R3 := Lib.hid hr2.snd
  have HK := Lib.hid hK
  have HT := Lib.hid hT
  have HK2 := Lib.hid hK2
  have HT2 := Lib.hid hT2
  obtain ⟨ad, cp, ae, cq, rfl, rfl⟩ := hr.slice
  obtain ⟨bd, dp, be, dq, rfl, rfl⟩ := hr2.slice
  clear hr hr2 hK hT hK2 hT2
  go_enter Try.func102, Try.ntmps102
  go_wp2_with fail
  go_at_call 56
  refine (ilok_any o s ag lo hi lo hi n m _ _ K T _ HK.out HT.out (R0.out.below (B := w.heap.size) (by go_grown) (by omega)) (R1.out.below (B := w.heap.size) (by go_grown) (by omega)) (by first | omega | (simp; omega)) (by first | omega | (simp; omega))).mono ?_
  rw [Hv.out]
  rintro e v1 ⟨rfl, hb1⟩
  have sz1 : w.heap.size + 2 <= v1.heap.size := by have hh := hb1.size; simp at hh; omega
  have st1 : Below w.heap.size w v1 := Below.trans (by go_grown) (hb1.mono (by simp <;> omega))
  have c1_0 : v1.cell? ⟨w.heap.size, 0, none⟩ = some (.int .i64 o) := by rw [(bcell hb1).1 _ _ (by simp <;> omega), old_box (by simp <;> omega)]; first | (rw [new_at (by simp)]; rfl) | simp
  have c1_1 : v1.cell? ⟨w.heap.size, 1, none⟩ = some (.int .i64 s) := by rw [(bcell hb1).1 _ _ (by simp <;> omega), old_box (by simp <;> omega)]; first | (rw [new_at (by simp)]; rfl) | simp
  have c1_2 : v1.cell? ⟨w.heap.size, 2, none⟩ = some (.int .i64 ag) := by rw [(bcell hb1).1 _ _ (by simp <;> omega), old_box (by simp <;> omega)]; first | (rw [new_at (by simp)]; rfl) | simp
  have c1_3 : v1.cell? ⟨w.heap.size, 3, none⟩ = some (.slice ad n cp) := by rw [(bcell hb1).1 _ _ (by simp <;> omega), old_box (by simp <;> omega)]; first | (rw [new_at (by simp)]; rfl) | simp
  have c1_4 : v1.cell? ⟨w.heap.size, 4, none⟩ = some (.slice ae m cq) := by rw [(bcell hb1).1 _ _ (by simp <;> omega), old_box (by simp <;> omega)]; first | (rw [new_at (by simp)]; rfl) | simp
  have c1_5 : v1.cell? ⟨w.heap.size + 1, 0, none⟩ = some (.int .i64 o2) := by rw [(bcell hb1).1 _ _ (by simp)]; first | (rw [new_at (by simp)]; rfl) | simp
  have c1_6 : v1.cell? ⟨w.heap.size + 1, 1, none⟩ = some (.int .i64 s2) := by rw [(bcell hb1).1 _ _ (by simp)]; first | (rw [new_at (by simp)]; rfl) | simp
  have c1_7 : v1.cell? ⟨w.heap.size + 1, 2, none⟩ = some (.int .i64 ag2) := by rw [(bcell hb1).1 _ _ (by simp)]; first | (rw [new_at (by simp)]; rfl) | simp
  have c1_8 : v1.cell? ⟨w.heap.size + 1, 3, none⟩ = some (.slice bd n2 dp) := by rw [(bcell hb1).1 _ _ (by simp)]; first | (rw [new_at (by simp)]; rfl) | simp
  have c1_9 : v1.cell? ⟨w.heap.size + 1, 4, none⟩ = some (.slice be m2 dq) := by rw [(bcell hb1).1 _ _ (by simp)]; first | (rw [new_at (by simp)]; rfl) | simp
  have B1 : Hid (Below w.heap.size w v1) := st1
  have R1_0 : Hid (Row 2 v1 (lo) (hi) (.slice ad n cp) n (flat2 K)) := R0.out.below st1 (by omega)
  have R1_1 : Hid (Row 3 v1 (lo) (hi) (.slice ae m cq) m (flat T)) := R1.out.below st1 (by omega)
  have R1_2 : Hid (Row 2 v1 (lo2) (hi2) (.slice bd n2 dp) n2 (flat2 K2)) := R2.out.below st1 (by omega)
  have R1_3 : Hid (Row 3 v1 (lo2) (hi2) (.slice be m2 dq) m2 (flat T2)) := R3.out.below st1 (by omega)
  have d1_0 : w.heap.size < v1.heap.size := by omega
  have e1_0 : w.heap.size ≠ v1.heap.size := by omega
  have d1_1 : w.heap.size + 1 < v1.heap.size := by omega
  have e1_1 : w.heap.size + 1 ≠ v1.heap.size := by omega
  clear st1 R0 R1 R2 R3 hb1
  go_wp2_with fail
  go_at_call 56
  refine (ilok_any o2 s2 ag2 lo2 hi2 lo2 hi2 n2 m2 _ _ K2 T2 _ HK2.out HT2.out R1_2.out R1_3.out (by first | omega | (simp; omega)) (by first | omega | (simp; omega))).mono ?_
  rw [Hv2.out]
  rintro e v2 ⟨rfl, hb2⟩
  have sz2 : v1.heap.size <= v2.heap.size := hb2.size
  have st2 : Below v1.heap.size v1 v2 := hb2
  have c2_0 : v2.cell? ⟨w.heap.size, 0, none⟩ = some (.int .i64 o) := by rw [(bcell st2).1 _ _ (by omega)]; exact c1_0
  have c2_1 : v2.cell? ⟨w.heap.size, 1, none⟩ = some (.int .i64 s) := by rw [(bcell st2).1 _ _ (by omega)]; exact c1_1
  have c2_2 : v2.cell? ⟨w.heap.size, 2, none⟩ = some (.int .i64 ag) := by rw [(bcell st2).1 _ _ (by omega)]; exact c1_2
  have c2_3 : v2.cell? ⟨w.heap.size, 3, none⟩ = some (.slice ad n cp) := by rw [(bcell st2).1 _ _ (by omega)]; exact c1_3
  have c2_4 : v2.cell? ⟨w.heap.size, 4, none⟩ = some (.slice ae m cq) := by rw [(bcell st2).1 _ _ (by omega)]; exact c1_4
  have c2_5 : v2.cell? ⟨w.heap.size + 1, 0, none⟩ = some (.int .i64 o2) := by rw [(bcell st2).1 _ _ (by omega)]; exact c1_5
  have c2_6 : v2.cell? ⟨w.heap.size + 1, 1, none⟩ = some (.int .i64 s2) := by rw [(bcell st2).1 _ _ (by omega)]; exact c1_6
  have c2_7 : v2.cell? ⟨w.heap.size + 1, 2, none⟩ = some (.int .i64 ag2) := by rw [(bcell st2).1 _ _ (by omega)]; exact c1_7
  have c2_8 : v2.cell? ⟨w.heap.size + 1, 3, none⟩ = some (.slice bd n2 dp) := by rw [(bcell st2).1 _ _ (by omega)]; exact c1_8
  have c2_9 : v2.cell? ⟨w.heap.size + 1, 4, none⟩ = some (.slice be m2 dq) := by rw [(bcell st2).1 _ _ (by omega)]; exact c1_9
  have B2 : Hid (Below w.heap.size w v2) := B1.out.trans (st2.mono (by omega))
  have R2_0 : Hid (Row 2 v2 (lo) (hi) (.slice ad n cp) n (flat2 K)) := R1_0.out.below st2 (by omega)
  have R2_1 : Hid (Row 3 v2 (lo) (hi) (.slice ae m cq) m (flat T)) := R1_1.out.below st2 (by omega)
  have R2_2 : Hid (Row 2 v2 (lo2) (hi2) (.slice bd n2 dp) n2 (flat2 K2)) := R1_2.out.below st2 (by omega)
  have R2_3 : Hid (Row 3 v2 (lo2) (hi2) (.slice be m2 dq) m2 (flat T2)) := R1_3.out.below st2 (by omega)
  have d2_0 : w.heap.size < v2.heap.size := by omega
  have e2_0 : w.heap.size ≠ v2.heap.size := by omega
  have d2_1 : w.heap.size + 1 < v2.heap.size := by omega
  have e2_1 : w.heap.size + 1 ≠ v2.heap.size := by omega
  clear d1_0 e1_0 d1_1 e1_1 c1_0 c1_1 c1_2 c1_3 c1_4 c1_5 c1_6 c1_7 c1_8 c1_9 B1 st2 R1_0 R1_1 R1_2 R1_3 hb2
  go_wp2_with fail
  go_ret
  exact ⟨by rw [Hn.out]; rfl, B2.out⟩
set_option linter.unusedVariables false in
set_option maxRecDepth 100000 in
set_option maxHeartbeats 4000000 in
theorem inew_2 (o s ag o2 s2 ag2 : Int) (lo hi n m lo2 hi2 n2 m2 : Nat) (u v u2 v2 : Value) (K : List Lk) (T : List Ed) (K2 : List Lk) (T2 : List Ed) (w : World) (hK : K.length = n) (hT : T.length = m) (hK2 : K2.length = n2) (hT2 : T2.length = m2) (hr : LRow w lo hi u v n m (flat2 K) (flat T)) (hr2 : LRow w lo2 hi2 u2 v2 n2 m2 (flat2 K2) (flat T2)) (hh : hi <= w.heap.size) (hh2 : hi2 <= w.heap.size) (hv : lokB o s ag K T = true) (hv2 : lokB o2 s2 ag2 K2 T2 = true) (ho : o ≠ o2) :
    Calls Try.prog 102 #[.agg #[.int .i64 o, .int .i64 s, .int .i64 ag, u, v], .agg #[.int .i64 o2, .int .i64 s2, .int .i64 ag2, u2, v2]] w fun e w' => e = .returned (.int .i64 (newN o s ag o2 s2 ag2 K T K2 T2)) /\ Below w.heap.size w w' := by
  have Hn := Lib.hid (new_no (s := s) (ag := ag) (s2 := s2) (ag2 := ag2) (K := K) (T := T) (K2 := K2) (T2 := T2) (.inr (.inr ho)))
  have f1 : (o == o2) = false := by simp [ho]
  have f2 : (o != o2) = true := by simp [ho]
  have Ho := Lib.hid ho
  clear ho
  have Hv := Lib.hid hv
  have Hv2 := Lib.hid hv2
  clear hv hv2
  have R0 := Lib.hid hr.fst
  have R1 := Lib.hid hr.snd
  have R2 := Lib.hid hr2.fst
  have R3 := Lib.hid hr2.snd
  have HK := Lib.hid hK
  have HT := Lib.hid hT
  have HK2 := Lib.hid hK2
  have HT2 := Lib.hid hT2
  obtain ⟨ad, cp, ae, cq, rfl, rfl⟩ := hr.slice
  obtain ⟨bd, dp, be, dq, rfl, rfl⟩ := hr2.slice
  clear hr hr2 hK hT hK2 hT2
  go_enter Try.func102, Try.ntmps102
  go_wp2_with fail
  go_at_call 56
  refine (ilok_any o s ag lo hi lo hi n m _ _ K T _ HK.out HT.out (R0.out.below (B := w.heap.size) (by go_grown) (by omega)) (R1.out.below (B := w.heap.size) (by go_grown) (by omega)) (by first | omega | (simp; omega)) (by first | omega | (simp; omega))).mono ?_
  rw [Hv.out]
  rintro e v1 ⟨rfl, hb1⟩
  have sz1 : w.heap.size + 2 <= v1.heap.size := by have hh := hb1.size; simp at hh; omega
  have st1 : Below w.heap.size w v1 := Below.trans (by go_grown) (hb1.mono (by simp <;> omega))
  have c1_0 : v1.cell? ⟨w.heap.size, 0, none⟩ = some (.int .i64 o) := by rw [(bcell hb1).1 _ _ (by simp <;> omega), old_box (by simp <;> omega)]; first | (rw [new_at (by simp)]; rfl) | simp
  have c1_1 : v1.cell? ⟨w.heap.size, 1, none⟩ = some (.int .i64 s) := by rw [(bcell hb1).1 _ _ (by simp <;> omega), old_box (by simp <;> omega)]; first | (rw [new_at (by simp)]; rfl) | simp
  have c1_2 : v1.cell? ⟨w.heap.size, 2, none⟩ = some (.int .i64 ag) := by rw [(bcell hb1).1 _ _ (by simp <;> omega), old_box (by simp <;> omega)]; first | (rw [new_at (by simp)]; rfl) | simp
  have c1_3 : v1.cell? ⟨w.heap.size, 3, none⟩ = some (.slice ad n cp) := by rw [(bcell hb1).1 _ _ (by simp <;> omega), old_box (by simp <;> omega)]; first | (rw [new_at (by simp)]; rfl) | simp
  have c1_4 : v1.cell? ⟨w.heap.size, 4, none⟩ = some (.slice ae m cq) := by rw [(bcell hb1).1 _ _ (by simp <;> omega), old_box (by simp <;> omega)]; first | (rw [new_at (by simp)]; rfl) | simp
  have c1_5 : v1.cell? ⟨w.heap.size + 1, 0, none⟩ = some (.int .i64 o2) := by rw [(bcell hb1).1 _ _ (by simp)]; first | (rw [new_at (by simp)]; rfl) | simp
  have c1_6 : v1.cell? ⟨w.heap.size + 1, 1, none⟩ = some (.int .i64 s2) := by rw [(bcell hb1).1 _ _ (by simp)]; first | (rw [new_at (by simp)]; rfl) | simp
  have c1_7 : v1.cell? ⟨w.heap.size + 1, 2, none⟩ = some (.int .i64 ag2) := by rw [(bcell hb1).1 _ _ (by simp)]; first | (rw [new_at (by simp)]; rfl) | simp
  have c1_8 : v1.cell? ⟨w.heap.size + 1, 3, none⟩ = some (.slice bd n2 dp) := by rw [(bcell hb1).1 _ _ (by simp)]; first | (rw [new_at (by simp)]; rfl) | simp
  have c1_9 : v1.cell? ⟨w.heap.size + 1, 4, none⟩ = some (.slice be m2 dq) := by rw [(bcell hb1).1 _ _ (by simp)]; first | (rw [new_at (by simp)]; rfl) | simp
  have B1 : Hid (Below w.heap.size w v1) := st1
  have R1_0 : Hid (Row 2 v1 (lo) (hi) (.slice ad n cp) n (flat2 K)) := R0.out.below st1 (by omega)
  have R1_1 : Hid (Row 3 v1 (lo) (hi) (.slice ae m cq) m (flat T)) := R1.out.below st1 (by omega)
  have R1_2 : Hid (Row 2 v1 (lo2) (hi2) (.slice bd n2 dp) n2 (flat2 K2)) := R2.out.below st1 (by omega)
  have R1_3 : Hid (Row 3 v1 (lo2) (hi2) (.slice be m2 dq) m2 (flat T2)) := R3.out.below st1 (by omega)
  have d1_0 : w.heap.size < v1.heap.size := by omega
  have e1_0 : w.heap.size ≠ v1.heap.size := by omega
  have d1_1 : w.heap.size + 1 < v1.heap.size := by omega
  have e1_1 : w.heap.size + 1 ≠ v1.heap.size := by omega
  clear st1 R0 R1 R2 R3 hb1
  go_wp2_with fail
  go_at_call 56
  refine (ilok_any o2 s2 ag2 lo2 hi2 lo2 hi2 n2 m2 _ _ K2 T2 _ HK2.out HT2.out R1_2.out R1_3.out (by first | omega | (simp; omega)) (by first | omega | (simp; omega))).mono ?_
  rw [Hv2.out]
  rintro e v2 ⟨rfl, hb2⟩
  have sz2 : v1.heap.size <= v2.heap.size := hb2.size
  have st2 : Below v1.heap.size v1 v2 := hb2
  have c2_0 : v2.cell? ⟨w.heap.size, 0, none⟩ = some (.int .i64 o) := by rw [(bcell st2).1 _ _ (by omega)]; exact c1_0
  have c2_1 : v2.cell? ⟨w.heap.size, 1, none⟩ = some (.int .i64 s) := by rw [(bcell st2).1 _ _ (by omega)]; exact c1_1
  have c2_2 : v2.cell? ⟨w.heap.size, 2, none⟩ = some (.int .i64 ag) := by rw [(bcell st2).1 _ _ (by omega)]; exact c1_2
  have c2_3 : v2.cell? ⟨w.heap.size, 3, none⟩ = some (.slice ad n cp) := by rw [(bcell st2).1 _ _ (by omega)]; exact c1_3
  have c2_4 : v2.cell? ⟨w.heap.size, 4, none⟩ = some (.slice ae m cq) := by rw [(bcell st2).1 _ _ (by omega)]; exact c1_4
  have c2_5 : v2.cell? ⟨w.heap.size + 1, 0, none⟩ = some (.int .i64 o2) := by rw [(bcell st2).1 _ _ (by omega)]; exact c1_5
  have c2_6 : v2.cell? ⟨w.heap.size + 1, 1, none⟩ = some (.int .i64 s2) := by rw [(bcell st2).1 _ _ (by omega)]; exact c1_6
  have c2_7 : v2.cell? ⟨w.heap.size + 1, 2, none⟩ = some (.int .i64 ag2) := by rw [(bcell st2).1 _ _ (by omega)]; exact c1_7
  have c2_8 : v2.cell? ⟨w.heap.size + 1, 3, none⟩ = some (.slice bd n2 dp) := by rw [(bcell st2).1 _ _ (by omega)]; exact c1_8
  have c2_9 : v2.cell? ⟨w.heap.size + 1, 4, none⟩ = some (.slice be m2 dq) := by rw [(bcell st2).1 _ _ (by omega)]; exact c1_9
  have B2 : Hid (Below w.heap.size w v2) := B1.out.trans (st2.mono (by omega))
  have R2_0 : Hid (Row 2 v2 (lo) (hi) (.slice ad n cp) n (flat2 K)) := R1_0.out.below st2 (by omega)
  have R2_1 : Hid (Row 3 v2 (lo) (hi) (.slice ae m cq) m (flat T)) := R1_1.out.below st2 (by omega)
  have R2_2 : Hid (Row 2 v2 (lo2) (hi2) (.slice bd n2 dp) n2 (flat2 K2)) := R1_2.out.below st2 (by omega)
  have R2_3 : Hid (Row 3 v2 (lo2) (hi2) (.slice be m2 dq) m2 (flat T2)) := R1_3.out.below st2 (by omega)
  have d2_0 : w.heap.size < v2.heap.size := by omega
  have e2_0 : w.heap.size ≠ v2.heap.size := by omega
  have d2_1 : w.heap.size + 1 < v2.heap.size := by omega
  have e2_1 : w.heap.size + 1 ≠ v2.heap.size := by omega
  clear d1_0 e1_0 d1_1 e1_1 c1_0 c1_1 c1_2 c1_3 c1_4 c1_5 c1_6 c1_7 c1_8 c1_9 B1 st2 R1_0 R1_1 R1_2 R1_3 hb2
  go_wp2_with fail
  go_ret
  exact ⟨by rw [Hn.out]; rfl, B2.out⟩
set_option linter.unusedVariables false in
set_option maxRecDepth 100000 in
set_option maxHeartbeats 4000000 in
theorem snew_0 (o s ag o2 s2 ag2 : Int) (lo hi n m lo2 hi2 n2 m2 : Nat) (u v u2 v2 : Value) (K : List Lk) (T : List Ed) (K2 : List Lk) (T2 : List Ed) (w : World) (hK : K.length = n) (hT : T.length = m) (hK2 : K2.length = n2) (hT2 : T2.length = m2) (hr : LRow w lo hi u v n m (flat2 K) (flat T)) (hr2 : LRow w lo2 hi2 u2 v2 n2 m2 (flat2 K2) (flat T2)) (hh : hi <= w.heap.size) (hh2 : hi2 <= w.heap.size) (hv : lokB o s ag K T = false) :
    Calls Try.prog 70 #[.agg #[.int .i64 o, .int .i64 s, .int .i64 ag, u, v], .agg #[.int .i64 o2, .int .i64 s2, .int .i64 ag2, u2, v2]] w fun e w' => e = .returned (.int .i64 (newN o s ag o2 s2 ag2 K T K2 T2)) /\ Below w.heap.size w w' := by
  have Hn := Lib.hid (new_no (s2 := s2) (ag2 := ag2) (o2 := o2) (K2 := K2) (T2 := T2) (.inl hv))
  have Hv := Lib.hid hv
  clear hv
  have R0 := Lib.hid hr.fst
  have R1 := Lib.hid hr.snd
  have R2 := Lib.hid hr2.fst
  have R3 := Lib.hid hr2.snd
  have HK := Lib.hid hK
  have HT := Lib.hid hT
  have HK2 := Lib.hid hK2
  have HT2 := Lib.hid hT2
  obtain ⟨ad, cp, ae, cq, rfl, rfl⟩ := hr.slice
  obtain ⟨bd, dp, be, dq, rfl, rfl⟩ := hr2.slice
  clear hr hr2 hK hT hK2 hT2
  go_enter Try.func70, Try.ntmps70
  go_wp2_with fail
  go_at_call 48
  refine (slok_any o s ag lo hi lo hi n m _ _ K T _ HK.out HT.out (R0.out.below (B := w.heap.size) (by go_grown) (by omega)) (R1.out.below (B := w.heap.size) (by go_grown) (by omega)) (by first | omega | (simp; omega)) (by first | omega | (simp; omega))).mono ?_
  rw [Hv.out]
  rintro e v1 ⟨rfl, hb1⟩
  have sz1 : w.heap.size + 2 <= v1.heap.size := by have hh := hb1.size; simp at hh; omega
  have st1 : Below w.heap.size w v1 := Below.trans (by go_grown) (hb1.mono (by simp <;> omega))
  have c1_0 : v1.cell? ⟨w.heap.size, 0, none⟩ = some (.int .i64 o) := by rw [(bcell hb1).1 _ _ (by simp <;> omega), old_box (by simp <;> omega)]; first | (rw [new_at (by simp)]; rfl) | simp
  have c1_1 : v1.cell? ⟨w.heap.size, 1, none⟩ = some (.int .i64 s) := by rw [(bcell hb1).1 _ _ (by simp <;> omega), old_box (by simp <;> omega)]; first | (rw [new_at (by simp)]; rfl) | simp
  have c1_2 : v1.cell? ⟨w.heap.size, 2, none⟩ = some (.int .i64 ag) := by rw [(bcell hb1).1 _ _ (by simp <;> omega), old_box (by simp <;> omega)]; first | (rw [new_at (by simp)]; rfl) | simp
  have c1_3 : v1.cell? ⟨w.heap.size, 3, none⟩ = some (.slice ad n cp) := by rw [(bcell hb1).1 _ _ (by simp <;> omega), old_box (by simp <;> omega)]; first | (rw [new_at (by simp)]; rfl) | simp
  have c1_4 : v1.cell? ⟨w.heap.size, 4, none⟩ = some (.slice ae m cq) := by rw [(bcell hb1).1 _ _ (by simp <;> omega), old_box (by simp <;> omega)]; first | (rw [new_at (by simp)]; rfl) | simp
  have c1_5 : v1.cell? ⟨w.heap.size + 1, 0, none⟩ = some (.int .i64 o2) := by rw [(bcell hb1).1 _ _ (by simp)]; first | (rw [new_at (by simp)]; rfl) | simp
  have c1_6 : v1.cell? ⟨w.heap.size + 1, 1, none⟩ = some (.int .i64 s2) := by rw [(bcell hb1).1 _ _ (by simp)]; first | (rw [new_at (by simp)]; rfl) | simp
  have c1_7 : v1.cell? ⟨w.heap.size + 1, 2, none⟩ = some (.int .i64 ag2) := by rw [(bcell hb1).1 _ _ (by simp)]; first | (rw [new_at (by simp)]; rfl) | simp
  have c1_8 : v1.cell? ⟨w.heap.size + 1, 3, none⟩ = some (.slice bd n2 dp) := by rw [(bcell hb1).1 _ _ (by simp)]; first | (rw [new_at (by simp)]; rfl) | simp
  have c1_9 : v1.cell? ⟨w.heap.size + 1, 4, none⟩ = some (.slice be m2 dq) := by rw [(bcell hb1).1 _ _ (by simp)]; first | (rw [new_at (by simp)]; rfl) | simp
  have B1 : Hid (Below w.heap.size w v1) := st1
  have R1_0 : Hid (Row 2 v1 (lo) (hi) (.slice ad n cp) n (flat2 K)) := R0.out.below st1 (by omega)
  have R1_1 : Hid (Row 3 v1 (lo) (hi) (.slice ae m cq) m (flat T)) := R1.out.below st1 (by omega)
  have R1_2 : Hid (Row 2 v1 (lo2) (hi2) (.slice bd n2 dp) n2 (flat2 K2)) := R2.out.below st1 (by omega)
  have R1_3 : Hid (Row 3 v1 (lo2) (hi2) (.slice be m2 dq) m2 (flat T2)) := R3.out.below st1 (by omega)
  have d1_0 : w.heap.size < v1.heap.size := by omega
  have e1_0 : w.heap.size ≠ v1.heap.size := by omega
  have d1_1 : w.heap.size + 1 < v1.heap.size := by omega
  have e1_1 : w.heap.size + 1 ≠ v1.heap.size := by omega
  clear st1 R0 R1 R2 R3 hb1
  go_wp2_with fail
  go_ret
  exact ⟨by rw [Hn.out]; rfl, B1.out⟩
set_option linter.unusedVariables false in
set_option maxRecDepth 100000 in
set_option maxHeartbeats 4000000 in
theorem snew_1 (o s ag o2 s2 ag2 : Int) (lo hi n m lo2 hi2 n2 m2 : Nat) (u v u2 v2 : Value) (K : List Lk) (T : List Ed) (K2 : List Lk) (T2 : List Ed) (w : World) (hK : K.length = n) (hT : T.length = m) (hK2 : K2.length = n2) (hT2 : T2.length = m2) (hr : LRow w lo hi u v n m (flat2 K) (flat T)) (hr2 : LRow w lo2 hi2 u2 v2 n2 m2 (flat2 K2) (flat T2)) (hh : hi <= w.heap.size) (hh2 : hi2 <= w.heap.size) (hv : lokB o s ag K T = true) (hv2 : lokB o2 s2 ag2 K2 T2 = false) :
    Calls Try.prog 70 #[.agg #[.int .i64 o, .int .i64 s, .int .i64 ag, u, v], .agg #[.int .i64 o2, .int .i64 s2, .int .i64 ag2, u2, v2]] w fun e w' => e = .returned (.int .i64 (newN o s ag o2 s2 ag2 K T K2 T2)) /\ Below w.heap.size w w' := by
  have Hn := Lib.hid (new_no (s := s) (ag := ag) (o := o) (K := K) (T := T) (.inr (.inl hv2)))
  have Hv := Lib.hid hv
  have Hv2 := Lib.hid hv2
  clear hv hv2
  have R0 := Lib.hid hr.fst
  have R1 := Lib.hid hr.snd
  have R2 := Lib.hid hr2.fst
  have R3 := Lib.hid hr2.snd
  have HK := Lib.hid hK
  have HT := Lib.hid hT
  have HK2 := Lib.hid hK2
  have HT2 := Lib.hid hT2
  obtain ⟨ad, cp, ae, cq, rfl, rfl⟩ := hr.slice
  obtain ⟨bd, dp, be, dq, rfl, rfl⟩ := hr2.slice
  clear hr hr2 hK hT hK2 hT2
  go_enter Try.func70, Try.ntmps70
  go_wp2_with fail
  go_at_call 48
  refine (slok_any o s ag lo hi lo hi n m _ _ K T _ HK.out HT.out (R0.out.below (B := w.heap.size) (by go_grown) (by omega)) (R1.out.below (B := w.heap.size) (by go_grown) (by omega)) (by first | omega | (simp; omega)) (by first | omega | (simp; omega))).mono ?_
  rw [Hv.out]
  rintro e v1 ⟨rfl, hb1⟩
  have sz1 : w.heap.size + 2 <= v1.heap.size := by have hh := hb1.size; simp at hh; omega
  have st1 : Below w.heap.size w v1 := Below.trans (by go_grown) (hb1.mono (by simp <;> omega))
  have c1_0 : v1.cell? ⟨w.heap.size, 0, none⟩ = some (.int .i64 o) := by rw [(bcell hb1).1 _ _ (by simp <;> omega), old_box (by simp <;> omega)]; first | (rw [new_at (by simp)]; rfl) | simp
  have c1_1 : v1.cell? ⟨w.heap.size, 1, none⟩ = some (.int .i64 s) := by rw [(bcell hb1).1 _ _ (by simp <;> omega), old_box (by simp <;> omega)]; first | (rw [new_at (by simp)]; rfl) | simp
  have c1_2 : v1.cell? ⟨w.heap.size, 2, none⟩ = some (.int .i64 ag) := by rw [(bcell hb1).1 _ _ (by simp <;> omega), old_box (by simp <;> omega)]; first | (rw [new_at (by simp)]; rfl) | simp
  have c1_3 : v1.cell? ⟨w.heap.size, 3, none⟩ = some (.slice ad n cp) := by rw [(bcell hb1).1 _ _ (by simp <;> omega), old_box (by simp <;> omega)]; first | (rw [new_at (by simp)]; rfl) | simp
  have c1_4 : v1.cell? ⟨w.heap.size, 4, none⟩ = some (.slice ae m cq) := by rw [(bcell hb1).1 _ _ (by simp <;> omega), old_box (by simp <;> omega)]; first | (rw [new_at (by simp)]; rfl) | simp
  have c1_5 : v1.cell? ⟨w.heap.size + 1, 0, none⟩ = some (.int .i64 o2) := by rw [(bcell hb1).1 _ _ (by simp)]; first | (rw [new_at (by simp)]; rfl) | simp
  have c1_6 : v1.cell? ⟨w.heap.size + 1, 1, none⟩ = some (.int .i64 s2) := by rw [(bcell hb1).1 _ _ (by simp)]; first | (rw [new_at (by simp)]; rfl) | simp
  have c1_7 : v1.cell? ⟨w.heap.size + 1, 2, none⟩ = some (.int .i64 ag2) := by rw [(bcell hb1).1 _ _ (by simp)]; first | (rw [new_at (by simp)]; rfl) | simp
  have c1_8 : v1.cell? ⟨w.heap.size + 1, 3, none⟩ = some (.slice bd n2 dp) := by rw [(bcell hb1).1 _ _ (by simp)]; first | (rw [new_at (by simp)]; rfl) | simp
  have c1_9 : v1.cell? ⟨w.heap.size + 1, 4, none⟩ = some (.slice be m2 dq) := by rw [(bcell hb1).1 _ _ (by simp)]; first | (rw [new_at (by simp)]; rfl) | simp
  have B1 : Hid (Below w.heap.size w v1) := st1
  have R1_0 : Hid (Row 2 v1 (lo) (hi) (.slice ad n cp) n (flat2 K)) := R0.out.below st1 (by omega)
  have R1_1 : Hid (Row 3 v1 (lo) (hi) (.slice ae m cq) m (flat T)) := R1.out.below st1 (by omega)
  have R1_2 : Hid (Row 2 v1 (lo2) (hi2) (.slice bd n2 dp) n2 (flat2 K2)) := R2.out.below st1 (by omega)
  have R1_3 : Hid (Row 3 v1 (lo2) (hi2) (.slice be m2 dq) m2 (flat T2)) := R3.out.below st1 (by omega)
  have d1_0 : w.heap.size < v1.heap.size := by omega
  have e1_0 : w.heap.size ≠ v1.heap.size := by omega
  have d1_1 : w.heap.size + 1 < v1.heap.size := by omega
  have e1_1 : w.heap.size + 1 ≠ v1.heap.size := by omega
  clear st1 R0 R1 R2 R3 hb1
  go_wp2_with fail
  go_at_call 48
  refine (slok_any o2 s2 ag2 lo2 hi2 lo2 hi2 n2 m2 _ _ K2 T2 _ HK2.out HT2.out R1_2.out R1_3.out (by first | omega | (simp; omega)) (by first | omega | (simp; omega))).mono ?_
  rw [Hv2.out]
  rintro e v2 ⟨rfl, hb2⟩
  have sz2 : v1.heap.size <= v2.heap.size := hb2.size
  have st2 : Below v1.heap.size v1 v2 := hb2
  have c2_0 : v2.cell? ⟨w.heap.size, 0, none⟩ = some (.int .i64 o) := by rw [(bcell st2).1 _ _ (by omega)]; exact c1_0
  have c2_1 : v2.cell? ⟨w.heap.size, 1, none⟩ = some (.int .i64 s) := by rw [(bcell st2).1 _ _ (by omega)]; exact c1_1
  have c2_2 : v2.cell? ⟨w.heap.size, 2, none⟩ = some (.int .i64 ag) := by rw [(bcell st2).1 _ _ (by omega)]; exact c1_2
  have c2_3 : v2.cell? ⟨w.heap.size, 3, none⟩ = some (.slice ad n cp) := by rw [(bcell st2).1 _ _ (by omega)]; exact c1_3
  have c2_4 : v2.cell? ⟨w.heap.size, 4, none⟩ = some (.slice ae m cq) := by rw [(bcell st2).1 _ _ (by omega)]; exact c1_4
  have c2_5 : v2.cell? ⟨w.heap.size + 1, 0, none⟩ = some (.int .i64 o2) := by rw [(bcell st2).1 _ _ (by omega)]; exact c1_5
  have c2_6 : v2.cell? ⟨w.heap.size + 1, 1, none⟩ = some (.int .i64 s2) := by rw [(bcell st2).1 _ _ (by omega)]; exact c1_6
  have c2_7 : v2.cell? ⟨w.heap.size + 1, 2, none⟩ = some (.int .i64 ag2) := by rw [(bcell st2).1 _ _ (by omega)]; exact c1_7
  have c2_8 : v2.cell? ⟨w.heap.size + 1, 3, none⟩ = some (.slice bd n2 dp) := by rw [(bcell st2).1 _ _ (by omega)]; exact c1_8
  have c2_9 : v2.cell? ⟨w.heap.size + 1, 4, none⟩ = some (.slice be m2 dq) := by rw [(bcell st2).1 _ _ (by omega)]; exact c1_9
  have B2 : Hid (Below w.heap.size w v2) := B1.out.trans (st2.mono (by omega))
  have R2_0 : Hid (Row 2 v2 (lo) (hi) (.slice ad n cp) n (flat2 K)) := R1_0.out.below st2 (by omega)
  have R2_1 : Hid (Row 3 v2 (lo) (hi) (.slice ae m cq) m (flat T)) := R1_1.out.below st2 (by omega)
  have R2_2 : Hid (Row 2 v2 (lo2) (hi2) (.slice bd n2 dp) n2 (flat2 K2)) := R1_2.out.below st2 (by omega)
  have R2_3 : Hid (Row 3 v2 (lo2) (hi2) (.slice be m2 dq) m2 (flat T2)) := R1_3.out.below st2 (by omega)
  have d2_0 : w.heap.size < v2.heap.size := by omega
  have e2_0 : w.heap.size ≠ v2.heap.size := by omega
  have d2_1 : w.heap.size + 1 < v2.heap.size := by omega
  have e2_1 : w.heap.size + 1 ≠ v2.heap.size := by omega
  clear d1_0 e1_0 d1_1 e1_1 c1_0 c1_1 c1_2 c1_3 c1_4 c1_5 c1_6 c1_7 c1_8 c1_9 B1 st2 R1_0 R1_1 R1_2 R1_3 hb2
  go_wp2_with fail
  go_ret
  exact ⟨by rw [Hn.out]; rfl, B2.out⟩
set_option linter.unusedVariables false in
set_option maxRecDepth 100000 in
set_option maxHeartbeats 4000000 in
theorem snew_2 (o s ag o2 s2 ag2 : Int) (lo hi n m lo2 hi2 n2 m2 : Nat) (u v u2 v2 : Value) (K : List Lk) (T : List Ed) (K2 : List Lk) (T2 : List Ed) (w : World) (hK : K.length = n) (hT : T.length = m) (hK2 : K2.length = n2) (hT2 : T2.length = m2) (hr : LRow w lo hi u v n m (flat2 K) (flat T)) (hr2 : LRow w lo2 hi2 u2 v2 n2 m2 (flat2 K2) (flat T2)) (hh : hi <= w.heap.size) (hh2 : hi2 <= w.heap.size) (hv : lokB o s ag K T = true) (hv2 : lokB o2 s2 ag2 K2 T2 = true) (ho : o ≠ o2) :
    Calls Try.prog 70 #[.agg #[.int .i64 o, .int .i64 s, .int .i64 ag, u, v], .agg #[.int .i64 o2, .int .i64 s2, .int .i64 ag2, u2, v2]] w fun e w' => e = .returned (.int .i64 (newN o s ag o2 s2 ag2 K T K2 T2)) /\ Below w.heap.size w w' := by
  have Hn := Lib.hid (new_no (s := s) (ag := ag) (s2 := s2) (ag2 := ag2) (K := K) (T := T) (K2 := K2) (T2 := T2) (.inr (.inr ho)))
  have f1 : (o == o2) = false := by simp [ho]
  have f2 : (o != o2) = true := by simp [ho]
  have Ho := Lib.hid ho
  clear ho
  have Hv := Lib.hid hv
  have Hv2 := Lib.hid hv2
  clear hv hv2
  have R0 := Lib.hid hr.fst
  have R1 := Lib.hid hr.snd
  have R2 := Lib.hid hr2.fst
  have R3 := Lib.hid hr2.snd
  have HK := Lib.hid hK
  have HT := Lib.hid hT
  have HK2 := Lib.hid hK2
  have HT2 := Lib.hid hT2
  obtain ⟨ad, cp, ae, cq, rfl, rfl⟩ := hr.slice
  obtain ⟨bd, dp, be, dq, rfl, rfl⟩ := hr2.slice
  clear hr hr2 hK hT hK2 hT2
  go_enter Try.func70, Try.ntmps70
  go_wp2_with fail
  go_at_call 48
  refine (slok_any o s ag lo hi lo hi n m _ _ K T _ HK.out HT.out (R0.out.below (B := w.heap.size) (by go_grown) (by omega)) (R1.out.below (B := w.heap.size) (by go_grown) (by omega)) (by first | omega | (simp; omega)) (by first | omega | (simp; omega))).mono ?_
  rw [Hv.out]
  rintro e v1 ⟨rfl, hb1⟩
  have sz1 : w.heap.size + 2 <= v1.heap.size := by have hh := hb1.size; simp at hh; omega
  have st1 : Below w.heap.size w v1 := Below.trans (by go_grown) (hb1.mono (by simp <;> omega))
  have c1_0 : v1.cell? ⟨w.heap.size, 0, none⟩ = some (.int .i64 o) := by rw [(bcell hb1).1 _ _ (by simp <;> omega), old_box (by simp <;> omega)]; first | (rw [new_at (by simp)]; rfl) | simp
  have c1_1 : v1.cell? ⟨w.heap.size, 1, none⟩ = some (.int .i64 s) := by rw [(bcell hb1).1 _ _ (by simp <;> omega), old_box (by simp <;> omega)]; first | (rw [new_at (by simp)]; rfl) | simp
  have c1_2 : v1.cell? ⟨w.heap.size, 2, none⟩ = some (.int .i64 ag) := by rw [(bcell hb1).1 _ _ (by simp <;> omega), old_box (by simp <;> omega)]; first | (rw [new_at (by simp)]; rfl) | simp
  have c1_3 : v1.cell? ⟨w.heap.size, 3, none⟩ = some (.slice ad n cp) := by rw [(bcell hb1).1 _ _ (by simp <;> omega), old_box (by simp <;> omega)]; first | (rw [new_at (by simp)]; rfl) | simp
  have c1_4 : v1.cell? ⟨w.heap.size, 4, none⟩ = some (.slice ae m cq) := by rw [(bcell hb1).1 _ _ (by simp <;> omega), old_box (by simp <;> omega)]; first | (rw [new_at (by simp)]; rfl) | simp
  have c1_5 : v1.cell? ⟨w.heap.size + 1, 0, none⟩ = some (.int .i64 o2) := by rw [(bcell hb1).1 _ _ (by simp)]; first | (rw [new_at (by simp)]; rfl) | simp
  have c1_6 : v1.cell? ⟨w.heap.size + 1, 1, none⟩ = some (.int .i64 s2) := by rw [(bcell hb1).1 _ _ (by simp)]; first | (rw [new_at (by simp)]; rfl) | simp
  have c1_7 : v1.cell? ⟨w.heap.size + 1, 2, none⟩ = some (.int .i64 ag2) := by rw [(bcell hb1).1 _ _ (by simp)]; first | (rw [new_at (by simp)]; rfl) | simp
  have c1_8 : v1.cell? ⟨w.heap.size + 1, 3, none⟩ = some (.slice bd n2 dp) := by rw [(bcell hb1).1 _ _ (by simp)]; first | (rw [new_at (by simp)]; rfl) | simp
  have c1_9 : v1.cell? ⟨w.heap.size + 1, 4, none⟩ = some (.slice be m2 dq) := by rw [(bcell hb1).1 _ _ (by simp)]; first | (rw [new_at (by simp)]; rfl) | simp
  have B1 : Hid (Below w.heap.size w v1) := st1
  have R1_0 : Hid (Row 2 v1 (lo) (hi) (.slice ad n cp) n (flat2 K)) := R0.out.below st1 (by omega)
  have R1_1 : Hid (Row 3 v1 (lo) (hi) (.slice ae m cq) m (flat T)) := R1.out.below st1 (by omega)
  have R1_2 : Hid (Row 2 v1 (lo2) (hi2) (.slice bd n2 dp) n2 (flat2 K2)) := R2.out.below st1 (by omega)
  have R1_3 : Hid (Row 3 v1 (lo2) (hi2) (.slice be m2 dq) m2 (flat T2)) := R3.out.below st1 (by omega)
  have d1_0 : w.heap.size < v1.heap.size := by omega
  have e1_0 : w.heap.size ≠ v1.heap.size := by omega
  have d1_1 : w.heap.size + 1 < v1.heap.size := by omega
  have e1_1 : w.heap.size + 1 ≠ v1.heap.size := by omega
  clear st1 R0 R1 R2 R3 hb1
  go_wp2_with fail
  go_at_call 48
  refine (slok_any o2 s2 ag2 lo2 hi2 lo2 hi2 n2 m2 _ _ K2 T2 _ HK2.out HT2.out R1_2.out R1_3.out (by first | omega | (simp; omega)) (by first | omega | (simp; omega))).mono ?_
  rw [Hv2.out]
  rintro e v2 ⟨rfl, hb2⟩
  have sz2 : v1.heap.size <= v2.heap.size := hb2.size
  have st2 : Below v1.heap.size v1 v2 := hb2
  have c2_0 : v2.cell? ⟨w.heap.size, 0, none⟩ = some (.int .i64 o) := by rw [(bcell st2).1 _ _ (by omega)]; exact c1_0
  have c2_1 : v2.cell? ⟨w.heap.size, 1, none⟩ = some (.int .i64 s) := by rw [(bcell st2).1 _ _ (by omega)]; exact c1_1
  have c2_2 : v2.cell? ⟨w.heap.size, 2, none⟩ = some (.int .i64 ag) := by rw [(bcell st2).1 _ _ (by omega)]; exact c1_2
  have c2_3 : v2.cell? ⟨w.heap.size, 3, none⟩ = some (.slice ad n cp) := by rw [(bcell st2).1 _ _ (by omega)]; exact c1_3
  have c2_4 : v2.cell? ⟨w.heap.size, 4, none⟩ = some (.slice ae m cq) := by rw [(bcell st2).1 _ _ (by omega)]; exact c1_4
  have c2_5 : v2.cell? ⟨w.heap.size + 1, 0, none⟩ = some (.int .i64 o2) := by rw [(bcell st2).1 _ _ (by omega)]; exact c1_5
  have c2_6 : v2.cell? ⟨w.heap.size + 1, 1, none⟩ = some (.int .i64 s2) := by rw [(bcell st2).1 _ _ (by omega)]; exact c1_6
  have c2_7 : v2.cell? ⟨w.heap.size + 1, 2, none⟩ = some (.int .i64 ag2) := by rw [(bcell st2).1 _ _ (by omega)]; exact c1_7
  have c2_8 : v2.cell? ⟨w.heap.size + 1, 3, none⟩ = some (.slice bd n2 dp) := by rw [(bcell st2).1 _ _ (by omega)]; exact c1_8
  have c2_9 : v2.cell? ⟨w.heap.size + 1, 4, none⟩ = some (.slice be m2 dq) := by rw [(bcell st2).1 _ _ (by omega)]; exact c1_9
  have B2 : Hid (Below w.heap.size w v2) := B1.out.trans (st2.mono (by omega))
  have R2_0 : Hid (Row 2 v2 (lo) (hi) (.slice ad n cp) n (flat2 K)) := R1_0.out.below st2 (by omega)
  have R2_1 : Hid (Row 3 v2 (lo) (hi) (.slice ae m cq) m (flat T)) := R1_1.out.below st2 (by omega)
  have R2_2 : Hid (Row 2 v2 (lo2) (hi2) (.slice bd n2 dp) n2 (flat2 K2)) := R1_2.out.below st2 (by omega)
  have R2_3 : Hid (Row 3 v2 (lo2) (hi2) (.slice be m2 dq) m2 (flat T2)) := R1_3.out.below st2 (by omega)
  have d2_0 : w.heap.size < v2.heap.size := by omega
  have e2_0 : w.heap.size ≠ v2.heap.size := by omega
  have d2_1 : w.heap.size + 1 < v2.heap.size := by omega
  have e2_1 : w.heap.size + 1 ≠ v2.heap.size := by omega
  clear d1_0 e1_0 d1_1 e1_1 c1_0 c1_1 c1_2 c1_3 c1_4 c1_5 c1_6 c1_7 c1_8 c1_9 B1 st2 R1_0 R1_1 R1_2 R1_3 hb2
  go_wp2_with fail
  go_ret
  exact ⟨by rw [Hn.out]; rfl, B2.out⟩
set_option linter.unusedVariables false in
set_option maxRecDepth 100000 in
set_option maxHeartbeats 4000000 in
theorem inew_3 (o s ag o2 s2 ag2 : Int) (lo hi n m lo2 hi2 n2 m2 : Nat) (u v u2 v2 : Value) (K : List Lk) (T : List Ed) (K2 : List Lk) (T2 : List Ed) (w : World) (hK : K.length = n) (hT : T.length = m) (hK2 : K2.length = n2) (hT2 : T2.length = m2) (hr : LRow w lo hi u v n m (flat2 K) (flat T)) (hr2 : LRow w lo2 hi2 u2 v2 n2 m2 (flat2 K2) (flat T2)) (hh : hi <= w.heap.size) (hh2 : hi2 <= w.heap.size) (hv : lokB o s ag K T = true) (hv2 : lokB o2 s2 ag2 K2 T2 = true) (ho : o = o2) :
    Calls Try.prog 102 #[.agg #[.int .i64 o, .int .i64 s, .int .i64 ag, u, v], .agg #[.int .i64 o2, .int .i64 s2, .int .i64 ag2, u2, v2]] w fun e w' => e = .returned (.int .i64 (newN o s ag o2 s2 ag2 K T K2 T2)) /\ Below w.heap.size w w' := by
  subst ho
  have Hn := Lib.hid (new_or hv hv2)
  have hbd := lok_bd hv
  have hbd2 := lok_bd hv2
  obtain ⟨oa, ob, sa, sb, ga, gb, _, _⟩ := hbd
  obtain ⟨oc, od, sc, sd, gc, gd, _, _⟩ := hbd2
  have hs := lsum_bd hv
  have hs2 := lsum_bd hv2
  obtain ⟨sum0, sum1⟩ := hs
  obtain ⟨sum2, sum3⟩ := hs2
  have Hv := Lib.hid hv
  have Hv2 := Lib.hid hv2
  clear hv hv2
  have R0 := Lib.hid hr.fst
  have R1 := Lib.hid hr.snd
  have R2 := Lib.hid hr2.fst
  have R3 := Lib.hid hr2.snd
  have HK := Lib.hid hK
  have HT := Lib.hid hT
  have HK2 := Lib.hid hK2
  have HT2 := Lib.hid hT2
  obtain ⟨ad, cp, ae, cq, rfl, rfl⟩ := hr.slice
  obtain ⟨bd, dp, be, dq, rfl, rfl⟩ := hr2.slice
  clear hr hr2 hK hT hK2 hT2
  go_enter Try.func102, Try.ntmps102
  go_wp2_with fail
  go_at_call 56
  refine (ilok_any o s ag lo hi lo hi n m _ _ K T _ HK.out HT.out (R0.out.below (B := w.heap.size) (by go_grown) (by omega)) (R1.out.below (B := w.heap.size) (by go_grown) (by omega)) (by first | omega | (simp; omega)) (by first | omega | (simp; omega))).mono ?_
  rw [Hv.out]
  rintro e v1 ⟨rfl, hb1⟩
  have sz1 : w.heap.size + 2 <= v1.heap.size := by have hh := hb1.size; simp at hh; omega
  have st1 : Below w.heap.size w v1 := Below.trans (by go_grown) (hb1.mono (by simp <;> omega))
  have c1_0 : v1.cell? ⟨w.heap.size, 0, none⟩ = some (.int .i64 o) := by rw [(bcell hb1).1 _ _ (by simp <;> omega), old_box (by simp <;> omega)]; first | (rw [new_at (by simp)]; rfl) | simp
  have c1_1 : v1.cell? ⟨w.heap.size, 1, none⟩ = some (.int .i64 s) := by rw [(bcell hb1).1 _ _ (by simp <;> omega), old_box (by simp <;> omega)]; first | (rw [new_at (by simp)]; rfl) | simp
  have c1_2 : v1.cell? ⟨w.heap.size, 2, none⟩ = some (.int .i64 ag) := by rw [(bcell hb1).1 _ _ (by simp <;> omega), old_box (by simp <;> omega)]; first | (rw [new_at (by simp)]; rfl) | simp
  have c1_3 : v1.cell? ⟨w.heap.size, 3, none⟩ = some (.slice ad n cp) := by rw [(bcell hb1).1 _ _ (by simp <;> omega), old_box (by simp <;> omega)]; first | (rw [new_at (by simp)]; rfl) | simp
  have c1_4 : v1.cell? ⟨w.heap.size, 4, none⟩ = some (.slice ae m cq) := by rw [(bcell hb1).1 _ _ (by simp <;> omega), old_box (by simp <;> omega)]; first | (rw [new_at (by simp)]; rfl) | simp
  have c1_5 : v1.cell? ⟨w.heap.size + 1, 0, none⟩ = some (.int .i64 o) := by rw [(bcell hb1).1 _ _ (by simp)]; first | (rw [new_at (by simp)]; rfl) | simp
  have c1_6 : v1.cell? ⟨w.heap.size + 1, 1, none⟩ = some (.int .i64 s2) := by rw [(bcell hb1).1 _ _ (by simp)]; first | (rw [new_at (by simp)]; rfl) | simp
  have c1_7 : v1.cell? ⟨w.heap.size + 1, 2, none⟩ = some (.int .i64 ag2) := by rw [(bcell hb1).1 _ _ (by simp)]; first | (rw [new_at (by simp)]; rfl) | simp
  have c1_8 : v1.cell? ⟨w.heap.size + 1, 3, none⟩ = some (.slice bd n2 dp) := by rw [(bcell hb1).1 _ _ (by simp)]; first | (rw [new_at (by simp)]; rfl) | simp
  have c1_9 : v1.cell? ⟨w.heap.size + 1, 4, none⟩ = some (.slice be m2 dq) := by rw [(bcell hb1).1 _ _ (by simp)]; first | (rw [new_at (by simp)]; rfl) | simp
  have B1 : Hid (Below w.heap.size w v1) := st1
  have R1_0 : Hid (Row 2 v1 (lo) (hi) (.slice ad n cp) n (flat2 K)) := R0.out.below st1 (by omega)
  have R1_1 : Hid (Row 3 v1 (lo) (hi) (.slice ae m cq) m (flat T)) := R1.out.below st1 (by omega)
  have R1_2 : Hid (Row 2 v1 (lo2) (hi2) (.slice bd n2 dp) n2 (flat2 K2)) := R2.out.below st1 (by omega)
  have R1_3 : Hid (Row 3 v1 (lo2) (hi2) (.slice be m2 dq) m2 (flat T2)) := R3.out.below st1 (by omega)
  have d1_0 : w.heap.size < v1.heap.size := by omega
  have e1_0 : w.heap.size ≠ v1.heap.size := by omega
  have d1_1 : w.heap.size + 1 < v1.heap.size := by omega
  have e1_1 : w.heap.size + 1 ≠ v1.heap.size := by omega
  clear st1 R0 R1 R2 R3 hb1
  go_wp2_with fail
  go_at_call 56
  refine (ilok_any o s2 ag2 lo2 hi2 lo2 hi2 n2 m2 _ _ K2 T2 _ HK2.out HT2.out R1_2.out R1_3.out (by first | omega | (simp; omega)) (by first | omega | (simp; omega))).mono ?_
  rw [Hv2.out]
  rintro e v2 ⟨rfl, hb2⟩
  have sz2 : v1.heap.size <= v2.heap.size := hb2.size
  have st2 : Below v1.heap.size v1 v2 := hb2
  have c2_0 : v2.cell? ⟨w.heap.size, 0, none⟩ = some (.int .i64 o) := by rw [(bcell st2).1 _ _ (by omega)]; exact c1_0
  have c2_1 : v2.cell? ⟨w.heap.size, 1, none⟩ = some (.int .i64 s) := by rw [(bcell st2).1 _ _ (by omega)]; exact c1_1
  have c2_2 : v2.cell? ⟨w.heap.size, 2, none⟩ = some (.int .i64 ag) := by rw [(bcell st2).1 _ _ (by omega)]; exact c1_2
  have c2_3 : v2.cell? ⟨w.heap.size, 3, none⟩ = some (.slice ad n cp) := by rw [(bcell st2).1 _ _ (by omega)]; exact c1_3
  have c2_4 : v2.cell? ⟨w.heap.size, 4, none⟩ = some (.slice ae m cq) := by rw [(bcell st2).1 _ _ (by omega)]; exact c1_4
  have c2_5 : v2.cell? ⟨w.heap.size + 1, 0, none⟩ = some (.int .i64 o) := by rw [(bcell st2).1 _ _ (by omega)]; exact c1_5
  have c2_6 : v2.cell? ⟨w.heap.size + 1, 1, none⟩ = some (.int .i64 s2) := by rw [(bcell st2).1 _ _ (by omega)]; exact c1_6
  have c2_7 : v2.cell? ⟨w.heap.size + 1, 2, none⟩ = some (.int .i64 ag2) := by rw [(bcell st2).1 _ _ (by omega)]; exact c1_7
  have c2_8 : v2.cell? ⟨w.heap.size + 1, 3, none⟩ = some (.slice bd n2 dp) := by rw [(bcell st2).1 _ _ (by omega)]; exact c1_8
  have c2_9 : v2.cell? ⟨w.heap.size + 1, 4, none⟩ = some (.slice be m2 dq) := by rw [(bcell st2).1 _ _ (by omega)]; exact c1_9
  have B2 : Hid (Below w.heap.size w v2) := B1.out.trans (st2.mono (by omega))
  have R2_0 : Hid (Row 2 v2 (lo) (hi) (.slice ad n cp) n (flat2 K)) := R1_0.out.below st2 (by omega)
  have R2_1 : Hid (Row 3 v2 (lo) (hi) (.slice ae m cq) m (flat T)) := R1_1.out.below st2 (by omega)
  have R2_2 : Hid (Row 2 v2 (lo2) (hi2) (.slice bd n2 dp) n2 (flat2 K2)) := R1_2.out.below st2 (by omega)
  have R2_3 : Hid (Row 3 v2 (lo2) (hi2) (.slice be m2 dq) m2 (flat T2)) := R1_3.out.below st2 (by omega)
  have d2_0 : w.heap.size < v2.heap.size := by omega
  have e2_0 : w.heap.size ≠ v2.heap.size := by omega
  have d2_1 : w.heap.size + 1 < v2.heap.size := by omega
  have e2_1 : w.heap.size + 1 ≠ v2.heap.size := by omega
  clear d1_0 e1_0 d1_1 e1_1 c1_0 c1_1 c1_2 c1_3 c1_4 c1_5 c1_6 c1_7 c1_8 c1_9 B1 st2 R1_0 R1_1 R1_2 R1_3 hb2
  have HB1 := B2
  have RR0 := R2_0
  have RR1 := R2_1
  have RR2 := R2_2
  have RR3 := R2_3
  go_wp2_with fail
  refine wp_region_held_drew (S := (fun w' => w'.cell? ⟨w.heap.size, 0, none⟩ = some (.int .i64 o) /\ w'.cell? ⟨w.heap.size, 1, none⟩ = some (.int .i64 s) /\ w'.cell? ⟨w.heap.size, 2, none⟩ = some (.int .i64 ag) /\ w'.cell? ⟨w.heap.size, 3, none⟩ = some (.slice ad n cp) /\ w'.cell? ⟨w.heap.size, 4, none⟩ = some (.slice ae m cq) /\ w'.cell? ⟨w.heap.size + 1, 0, none⟩ = some (.int .i64 o) /\ w'.cell? ⟨w.heap.size + 1, 1, none⟩ = some (.int .i64 s2) /\ w'.cell? ⟨w.heap.size + 1, 2, none⟩ = some (.int .i64 ag2) /\ w'.cell? ⟨w.heap.size + 1, 3, none⟩ = some (.slice bd n2 dp) /\ w'.cell? ⟨w.heap.size + 1, 4, none⟩ = some (.slice be m2 dq) /\ v2.heap.size <= w'.heap.size /\ Below v2.heap.size v2 w')) (by kernel_rfl) ?_ (fun hHeld => ?_)
  · exact rs10_start c2_0 c2_1 c2_2 c2_3 c2_4 c2_5 c2_6 c2_7 c2_8 c2_9 (Below.refl _ _)
  refine step_read 0 20 rfl rfl (by kernel_rfl) (by kernel_rfl) (by kernel_rfl) (fun _ _ _ h => h) (by rfl) (v := ?_) (fun w hSw => ?_) (by assumption) ?_; rotate_left; (focus ((try dsimp only at hSw); go_simp; first | done | exact rfl)); simp only [List.set]
  refine step_read 1 21 rfl rfl (by kernel_rfl) (by kernel_rfl) (by kernel_rfl) (fun _ _ _ h => h) (by rfl) (v := ?_) (fun w hSw => ?_) (by assumption) ?_; rotate_left; (focus ((try dsimp only at hSw); go_simp; first | done | exact rfl)); simp only [List.set]
  refine step_read 2 22 rfl rfl (by kernel_rfl) (by kernel_rfl) (by kernel_rfl) (fun _ _ _ h => h) (by rfl) (v := ?_) (fun w hSw => ?_) (by assumption) ?_; rotate_left; (focus ((try dsimp only at hSw); go_simp; first | done | exact rfl)); simp only [List.set]
  refine step_read 3 23 rfl rfl (by kernel_rfl) (by kernel_rfl) (by kernel_rfl) (fun _ _ _ h => h) (by rfl) (v := ?_) (fun w hSw => ?_) (by assumption) ?_; rotate_left; (focus ((try dsimp only at hSw); go_simp; first | done | exact rfl)); simp only [List.set]
  refine step_read 5 25 rfl rfl (by kernel_rfl) (by kernel_rfl) (by kernel_rfl) (fun _ _ _ h => h) (by rfl) (v := ?_) (fun w hSw => ?_) (by assumption) ?_; rotate_left; (focus ((try dsimp only at hSw); go_simp; first | done | exact rfl)); simp only [List.set]
  refine step_read 7 27 rfl rfl (by kernel_rfl) (by kernel_rfl) (by kernel_rfl) (fun _ _ _ h => h) (by rfl) (v := ?_) (fun w hSw => ?_) (by assumption) ?_; rotate_left; (focus ((try dsimp only at hSw); go_simp; first | done | exact rfl)); simp only [List.set]
  refine step_read 10 30 rfl rfl (by kernel_rfl) (by kernel_rfl) (by kernel_rfl) (fun _ _ _ h => h) (by rfl) (v := ?_) (fun w hSw => ?_) (by assumption) ?_; rotate_left; (focus ((try dsimp only at hSw); go_simp; first | done | exact rfl)); simp only [List.set]
  refine step_read 11 31 rfl rfl (by kernel_rfl) (by kernel_rfl) (by kernel_rfl) (fun _ _ _ h => h) (by rfl) (v := ?_) (fun w hSw => ?_) (by assumption) ?_; rotate_left; (focus ((try dsimp only at hSw); go_simp; first | done | exact rfl)); simp only [List.set]
  refine step_read 12 32 rfl rfl (by kernel_rfl) (by kernel_rfl) (by kernel_rfl) (fun _ _ _ h => h) (by rfl) (v := ?_) (fun w hSw => ?_) (by assumption) ?_; rotate_left; (focus ((try dsimp only at hSw); go_simp; first | done | exact rfl)); simp only [List.set]
  refine step_read 13 33 rfl rfl (by kernel_rfl) (by kernel_rfl) (by kernel_rfl) (fun _ _ _ h => h) (by rfl) (v := ?_) (fun w hSw => ?_) (by assumption) ?_; rotate_left; (focus ((try dsimp only at hSw); go_simp; first | done | exact rfl)); simp only [List.set]
  refine wpAnyH_ready (rs := [4]) (by kernel_rfl) (by simp) ?_
  refine AllReadyH.cons rfl (fun Kc hK => ?_) (AllReadyH.nil)
  go_simp
  go_at_call 127
  refine (cmp_any s s2 _).mono ?_
  rintro e w1 ⟨rfl, rfl⟩
  refine hK.out _ _ ?_ (fun hHeld => ?_)
  · assumption
  clear hK Kc
  refine wpAnyH_ready (rs := [6]) (by kernel_rfl) (by simp) ?_
  refine AllReadyH.cons rfl (fun Kc hK => ?_) (AllReadyH.nil)
  go_simp
  go_at_call 53
  have hsz2 := (rs10_out hHeld).1
  refine (ilsum_any o s ag lo hi lo hi n m _ _ K T _ HK.out HT.out (RR0.out.below (rs10_out (by assumption)).2 (by omega)) (RR1.out.below (rs10_out (by assumption)).2 (by omega)) (by omega) (by omega)).mono ?_
  rintro e w2 ⟨rfl, hb2⟩
  have sz2 := hb2.size
  refine hK.out _ _ ?_ (fun hHeld => ?_)
  · exact rs10_keep (by omega) (by omega) (by omega) (by omega) (by omega) (by omega) (by omega) (by omega) (by omega) (by omega) (hb2.mono (by omega)) (by assumption)
  clear hK Kc
  refine wpAnyH_ready (rs := [8]) (by kernel_rfl) (by simp) ?_
  refine AllReadyH.cons rfl (fun Kc hK => ?_) (AllReadyH.nil)
  go_simp
  go_at_call 53
  have hsz3 := (rs10_out hHeld).1
  refine (ilsum_any o s2 ag2 lo2 hi2 lo2 hi2 n2 m2 _ _ K2 T2 _ HK2.out HT2.out (RR2.out.below (rs10_out (by assumption)).2 (by omega)) (RR3.out.below (rs10_out (by assumption)).2 (by omega)) (by omega) (by omega)).mono ?_
  rintro e w3 ⟨rfl, hb3⟩
  have sz3 := hb3.size
  refine hK.out _ _ ?_ (fun hHeld => ?_)
  · exact rs10_keep (by omega) (by omega) (by omega) (by omega) (by omega) (by omega) (by omega) (by omega) (by omega) (by omega) (hb3.mono (by omega)) (by assumption)
  clear hK Kc
  refine wpAnyH_ready (rs := [9]) (by kernel_rfl) (by simp) ?_
  refine AllReadyH.cons rfl (fun Kc hK => ?_) (AllReadyH.nil)
  go_simp
  go_at_call 127
  refine (cmp_any (lsum o s ag K T) (lsum o s2 ag2 K2 T2) _).mono ?_
  rintro e w4 ⟨rfl, rfl⟩
  refine hK.out _ _ ?_ (fun hHeld => ?_)
  · assumption
  clear hK Kc
  refine wpAnyH_ready (rs := [14]) (by kernel_rfl) (by simp) ?_
  refine AllReadyH.cons rfl (fun Kc hK => ?_) (AllReadyH.nil)
  go_simp
  go_at_call 128
  refine (nage_any ag ag2 _ ga gb gc gd).mono ?_
  rintro e w5 ⟨rfl, rfl⟩
  refine hK.out _ _ ?_ (fun hHeld => ?_)
  · assumption
  clear hK Kc
  refine wpAnyH_ready (rs := [15]) (by kernel_rfl) (by simp) ?_
  refine AllReadyH.cons rfl (fun Kc hK => ?_) (AllReadyH.nil)
  go_simp
  have hsz6 := (rs10_out hHeld).1
  have hb6 : Below w3.heap.size w3 (w3.alloc (.cells #[.int .i64 (cmpI s s2), .int .i64 (cmpI (lsum o s ag K T) (lsum o s2 ag2 K2 T2)), .int .i64 (ageN ag ag2)] 3)) := (Below.refl _ _).alloc (Nat.le_refl _) _
  refine hK.out _ _ ?_ (fun hHeld => ?_)
  · exact rs10_keep (by omega) (by omega) (by omega) (by omega) (by omega) (by omega) (by omega) (by omega) (by omega) (by omega) (hb6.mono (by omega)) (by assumption)
  clear hK Kc
  refine wpAnyH_ready (rs := [16]) (by kernel_rfl) (by simp) ?_
  refine AllReadyH.cons rfl (fun Kc hK => ?_) (AllReadyH.nil)
  go_simp
  go_at_call 126
  refine (or3_any _ (cmpI s s2) (cmpI (lsum o s ag K T) (lsum o s2 ag2 K2 T2)) (ageN ag ag2) _ (by rw [new_at rfl]; rfl) (by rw [new_at rfl]; rfl) (by rw [new_at rfl]; rfl)).mono ?_
  rintro e w7 ⟨rfl, rfl⟩
  refine hK.out _ _ ?_ (fun hHeld => ?_)
  · assumption
  clear hK Kc
  refine step_read 17 4 rfl rfl (by kernel_rfl) (by kernel_rfl) (by kernel_rfl) (fun _ _ _ h => h) (by rfl) (v := ?_) (fun w hSw => ?_) (by assumption) ?_; rotate_left; (focus ((try dsimp only at hSw); go_simp; first | done | exact rfl)); simp only [List.set]
  refine wpAnyH_done (by kernel_rfl) ?_ _
  go_wp2_with fail
  go_ret
  exact ⟨by rw [Hn.out]; rfl, HB1.out.trans ((rs10_out hHeld).2.mono (by omega))⟩
theorem inew_any (o s ag o2 s2 ag2 : Int) (lo hi n m lo2 hi2 n2 m2 : Nat) (u v u2 v2 : Value) (K : List Lk) (T : List Ed) (K2 : List Lk) (T2 : List Ed) (w : World) (hK : K.length = n) (hT : T.length = m) (hK2 : K2.length = n2) (hT2 : T2.length = m2) (hr : LRow w lo hi u v n m (flat2 K) (flat T)) (hr2 : LRow w lo2 hi2 u2 v2 n2 m2 (flat2 K2) (flat T2)) (hh : hi <= w.heap.size) (hh2 : hi2 <= w.heap.size) :
    Calls Try.prog 102 #[.agg #[.int .i64 o, .int .i64 s, .int .i64 ag, u, v], .agg #[.int .i64 o2, .int .i64 s2, .int .i64 ag2, u2, v2]] w fun e w' => e = .returned (.int .i64 (newN o s ag o2 s2 ag2 K T K2 T2)) /\ Below w.heap.size w w' := by
  cases hv : lokB o s ag K T
  · exact inew_0 o s ag o2 s2 ag2 lo hi n m lo2 hi2 n2 m2 u v u2 v2 K T K2 T2 w hK hT hK2 hT2 hr hr2 hh hh2 hv
  cases hv2 : lokB o2 s2 ag2 K2 T2
  · exact inew_1 o s ag o2 s2 ag2 lo hi n m lo2 hi2 n2 m2 u v u2 v2 K T K2 T2 w hK hT hK2 hT2 hr hr2 hh hh2 hv hv2
  by_cases ho : o = o2
  · exact inew_3 o s ag o2 s2 ag2 lo hi n m lo2 hi2 n2 m2 u v u2 v2 K T K2 T2 w hK hT hK2 hT2 hr hr2 hh hh2 hv hv2 ho
  · exact inew_2 o s ag o2 s2 ag2 lo hi n m lo2 hi2 n2 m2 u v u2 v2 K T K2 T2 w hK hT hK2 hT2 hr hr2 hh hh2 hv hv2 ho
end Go.Proofs.Ytfpafjdakipccaa
