/- slices.DeleteFunc at edges, as a contract. -/
import Derived.Test.YtkkfgnnhdcmmjabW15
import Derived.Outline
namespace Go.Proofs.Ytkkfgnnhdcmmjab
open Go.RowKit


theorem keep_snoc {P : Ed → Bool} {L : List Ed} {k : Nat} {p : Ed} (h : L[k]? = some p) : (L.take (k + 1)).filter (fun e => !P e) = (L.take k).filter (fun e => !P e) ++ if P p then [] else [p] := by
  rw [take_snoc3 h, List.filter_append]
  cases hp : P p <;> simp [hp]
theorem keep_pre {P : Ed → Bool} {L : List Ed} {i : Nat} (hi : i < L.length) (h : ∀ (j : Nat) (p : Ed), j < i → L[j]? = some p → P p = false) : (L.take i).filter (fun e => !P e) = L.take i := by
  rw [List.filter_eq_self]
  intro p hp
  obtain ⟨j, hj⟩ := List.getElem?_of_mem hp
  have hjl : j < (L.take i).length := (List.getElem?_eq_some_iff.1 hj).1
  have hji : j < i := by rw [List.length_take] at hjl; omega
  rw [List.getElem?_take, if_pos hji] at hj
  rw [h j p hji hj]; rfl
theorem keep_all {P : Ed → Bool} {L : List Ed} (h : ∀ (j : Nat) (p : Ed), L[j]? = some p → P p = false) : L.filter (fun e => !P e) = L := by
  rw [List.filter_eq_self]
  intro p hp
  obtain ⟨j, hj⟩ := List.getElem?_of_mem hp
  rw [h j p hj]; rfl

set_option maxRecDepth 100000 in
set_option maxHeartbeats 4000000 in
theorem delete_some (p q G n cap : Nat) (L : List Ed) (x y : Int) (w : World) (hp : p < w.heap.size) (hq : q < w.heap.size) (hpG : p ≠ G) (hqG : q ≠ G) (h0 : w.cell? ⟨p, 0, none⟩ = some (.int .i64 x)) (h1 : w.cell? ⟨q, 0, none⟩ = some (.int .i64 y)) (hL : L.length = n) (hn : n ≤ 1100000) (hcap : n ≤ cap)
    (hG : G < w.heap.size) (hc : ∀ q z, (flat L)[q]? = some z → w.cell? ⟨G, q, none⟩ = some (.int .i64 z)) (hf : ∀ o, w.frozen? ⟨G, o, none⟩ = false) :
    Calls Try.prog 43 #[.slice (some ⟨G, 0, none⟩) n cap, .func (.func 44) #[] #[.pointer (some ⟨p, 0, none⟩), .pointer (some ⟨q, 0, none⟩)]] w fun e w' => e = .returned (.slice (some ⟨G, 0, none⟩) (L.filter (fun e => !jnB e.1 e.2.1 x y)).length cap) ∧ DelEnd w w' G (L.filter (fun e => !jnB e.1 e.2.1 x y)) := by
  have HL := Lib.hid hL
  have HC := Lib.hid hc
  have HFz := Lib.hid hf
  clear hL hc hf
  go_enter Try.func43, Try.ntmps43
  go_wp2_with fail
  go_at_call 59
  refine (index_any p q n _ cap L x y w hp hq h0 h1 HL.out hn (fun _ => ⟨G, rfl, hG, HC.out⟩)).mono ?_
  rintro e w1 ⟨r, rfl, hI, hb⟩
  have hs1 := hb.size
  have HD0 : Hid (∀ j, DRel w w1 G n [] j L) := fun j => ⟨Else.of_below hb, fun o => by rw [hb.frozen (p := ⟨G, o, none⟩) hG]; exact HFz.out o, fun q z hz => by simp [flat] at hz, fun q z _ hz => by rw [hb.cell (p := ⟨G, q, none⟩) hG]; exact HC.out q z hz, fun q hq => by
    have : q < (flat L).length := by rw [flat_len, HL.out]; exact hq
    exact ⟨_, by rw [hb.cell (p := ⟨G, q, none⟩) hG]; exact HC.out q _ (List.getElem?_eq_getElem this)⟩, Nat.lt_of_lt_of_le hG hs1⟩
  rcases hI with ⟨rfl, hall⟩ | ⟨i, rfl, hil, hiP, hpre⟩
  · have hF := Lib.hid (keep_all (P := fun e => jnB e.1 e.2.1 x y) hall)
    have HE : Hid (DelEnd w w1 G L) := ⟨(HD0.out 0).1, (HD0.out 0).2.1, fun q z hz => (HD0.out 0).2.2.2.1 q z (by omega) hz, by omega⟩
    clear HD0 hb hall
    go_wp2_with fail
    go_ret
    exact ⟨by rw [hF.out, HL.out]; rfl, by rw [hF.out]; exact HE.out⟩
  · rw [HL.out] at hil
    have hpre' := Lib.hid hpre
    have hA0 := Lib.hid (keep_pre (P := fun e => jnB e.1 e.2.1 x y) (by rw [HL.out]; exact hil) hpre)
    obtain ⟨e0, he0⟩ : ∃ e, L[i]? = some e := ⟨L[i]'(by rw [HL.out]; exact hil), List.getElem?_eq_getElem _⟩
    have hA1 : Hid ((L.take (i + 1)).filter (fun e => !jnB e.1 e.2.1 x y) = L.take i) := by
      show _ = _
      have h2 := keep_snoc (P := fun e => jnB e.1 e.2.1 x y) he0
      rw [if_pos (hiP e0 he0), List.append_nil] at h2
      rw [h2]; exact hA0.out
    have hlt0 : Hid ((L.take i).length = i) := by show _ = _; rw [List.length_take, HL.out]; omega
    -- the edges ahead of the first that goes stand already
    have HD : Hid (DRel w w1 G n (L.take i) (i + 1) L) := by
      obtain ⟨d1, d2, d3, d4, d5, d6⟩ := HD0.out 0
      refine ⟨d1, d2, fun q z hz => ?_, fun q z _ hz => d4 q z (by omega) hz, d5, d6⟩
      refine d4 q z (by omega) ?_
      have e := flat_app (L.take i) (L.drop i)
      rw [List.take_append_drop] at e
      rw [e, List.getElem?_append, if_pos (List.getElem?_eq_some_iff.1 hz).1]
      exact hz
    have hne : ((i : Int) == -1) = false := by simp <;> omega
    have q2 : (0 : Int) ≤ (i : Int) := by omega
    clear hpre hiP he0 HD0 hb
    go_wp2_with fail
    go_loopw [5, 6] (fun si sj wr => ∃ m j : Nat, i ≤ m ∧ m < j ∧ j ≤ n ∧ si = .int .i64 (m : Int) ∧ sj = .int .i64 (j : Int) ∧ Hid (m = ((L.take j).filter (fun e => !jnB e.1 e.2.1 x y)).length) ∧ Hid (DRel w wr G n ((L.take j).filter (fun e => !jnB e.1 e.2.1 x y)) j L)) (fun _ j _ => n - (intOf j).toNat)
    case atStart => exact ⟨i, i + 1, Nat.le_refl _, Nat.lt_succ_self _, by omega, rfl, by go_num, by show _ = _; rw [hA1.out, hlt0.out], by show DRel _ _ _ _ _ _ _; rw [hA1.out]; exact HD.out⟩
    case round =>
      obtain ⟨m, j, hm1, hm2, hj, rfl, rfl, hm, hD⟩ := hrel
      have hGw := hD.out.2.2.2.2.2
      have k0 : wr.cell? ⟨p, 0, none⟩ = some (.int .i64 x) := by rw [hD.out.1.cell hp hpG]; exact h0
      have k1 : wr.cell? ⟨q, 0, none⟩ = some (.int .i64 y) := by rw [hD.out.1.cell hq hqG]; exact h1
      have hpw : p < wr.heap.size := Nat.lt_of_lt_of_le hp hD.out.1.2.2.2.1
      have hqw : q < wr.heap.size := Nat.lt_of_lt_of_le hq hD.out.1.2.2.2.1
      by_cases hlt : j < n
      · obtain ⟨r, hrk⟩ : ∃ r, L[j]? = some r := ⟨L[j]'(by rw [HL.out]; exact hlt), List.getElem?_eq_getElem _⟩
        obtain ⟨a, b, c⟩ := r
        obtain ⟨r0, r1, r2⟩ := flat_at L j _ hrk
        have z0 : wr.cell? ⟨G, j * 3, none⟩ = some (.int .i64 a) := hD.out.2.2.2.1 _ _ (by omega) r0
        have z1 : wr.cell? ⟨G, j * 3 + 1, none⟩ = some (.int .i64 b) := hD.out.2.2.2.1 _ _ (by omega) r1
        have z2 : wr.cell? ⟨G, j * 3 + 2, none⟩ = some (.int .i64 c) := hD.out.2.2.2.1 _ _ (by omega) r2
        have hks := Lib.hid (keep_snoc (P := fun e => jnB e.1 e.2.1 x y) hrk)
        have q0 : (0 : Int) ≤ (j : Int) := by omega
        have q1 : (j : Int) < (n : Int) := by omega
        have p0 : (0 : Int) ≤ (m : Int) := by omega
        have p1 : (m : Int) < (n : Int) := by omega
        have l0 := old_box (x := .cells #[.int .i64 a, .int .i64 b, .int .i64 c] 56) (o := 0) hpw
        have l1 := old_box (x := .cells #[.int .i64 a, .int .i64 b, .int .i64 c] 56) (o := 0) hqw
        rw [k0] at l0
        rw [k1] at l1
        have HE := Lib.hid (hD.out.below ((Below.refl _ _).alloc (Nat.le_refl _) (.cells #[.int .i64 a, .int .i64 b, .int .i64 c] 56)))
        clear r0 r1 r2 hrk
        by_cases hP : jnB a b x y = true
        · rw [if_pos hP, List.append_nil] at hks
          go_wp2_with fail
          go_at_call 44
          refine (clos_any p q a b c x y _ (by simp; omega) (by simp; omega) l0 l1).mono ?_
          rw [hP]
          rintro e w2 ⟨rfl, hb⟩
          have HE2 := Lib.hid (HE.out.below hb).next
          clear hb HE hD
          go_wp2_with fail
          go_roundw
          case rel => exact ⟨m, j + 1, hm1, by omega, by omega, rfl, by go_num, by show _ = _; rw [hks.out]; exact hm.out, by show DRel _ _ _ _ _ _ _; rw [hks.out]; exact HE2.out⟩
          case measure => simp [intOf]; omega
        · rw [Bool.not_eq_true] at hP
          rw [if_neg (by rw [hP]; decide)] at hks
          go_wp2_with fail
          go_at_call 44
          refine (clos_any p q a b c x y _ (by simp; omega) (by simp; omega) l0 l1).mono ?_
          rw [hP]
          rintro e w2 ⟨rfl, hb⟩
          have HE2 := Lib.hid (HE.out.below hb)
          have s2 := hb.size
          simp at s2
          have b0 : w2.cell? ⟨wr.heap.size, 0, none⟩ = some (.int .i64 a) := by rw [(bcell hb).1 _ _ (by simp)]; simp
          have b1 : w2.cell? ⟨wr.heap.size, 1, none⟩ = some (.int .i64 b) := by rw [(bcell hb).1 _ _ (by simp)]; simp
          have b2 : w2.cell? ⟨wr.heap.size, 2, none⟩ = some (.int .i64 c) := by rw [(bcell hb).1 _ _ (by simp)]; simp
          obtain ⟨u0, g0⟩ := HE2.out.2.2.2.2.1 (m * 3) (by omega)
          obtain ⟨u1, g1⟩ := HE2.out.2.2.2.2.1 (m * 3 + 1) (by omega)
          obtain ⟨u2, g2⟩ := HE2.out.2.2.2.2.1 (m * 3 + 2) (by omega)
          have f0 := HE2.out.2.1 (m * 3)
          have f1 := HE2.out.2.1 (m * 3 + 1)
          have f2 := HE2.out.2.1 (m * 3 + 2)
          have HN := Lib.hid (HE2.out.put (a := a) (b := b) (c := c) hm.out hm2 hlt)
          have hGne : G ≠ wr.heap.size := by omega
          clear hb HE hD HE2
          go_wp2_with fail
          go_roundw
          case rel => exact ⟨m + 1, j + 1, by omega, by omega, by omega, by go_num, by go_num, by show _ = _; rw [hks.out, List.length_append, ← hm.out]; rfl, by show DRel _ _ _ _ _ _ _; rw [hks.out]; exact HN.out⟩
          case measure => simp [intOf]; omega
      · have hge : ¬ ((j : Int) < (n : Int)) := by omega
        obtain rfl : j = n := by omega
        have ht : L.take j = L := List.take_of_length_le (by rw [HL.out]; exact Nat.le_refl _)
        rw [ht] at hm hD
        have hcl : ∀ ty c, (Builtin.clear_ #[27] ty #[.slice (some ⟨G, m * 3, none⟩) (j - m) c]).run Try.prog wr = .ok (.tuple #[]) (wr.setCells G (m * 3) (Builtin.zeroCells #[.int .i64 0, .int .i64 0, .int .i64 0] (j - m)).toList) := fun ty c =>
          run_clear3 wr 27 56 ty (.agg #[.int .i64 0, .int .i64 0, .int .i64 0]) Try.underlying27 Try.zero56 (by decide) (three_one 0 0 0) G (m * 3) (j - m) c (by omega) (fun i hi => by
            have hi' : i < (j - m) * 3 := hi
            obtain ⟨u, hu⟩ := hD.out.2.2.2.2.1 (m * 3 + i) (by omega)
            rw [hu]; rfl) (fun i _ => hD.out.2.1 _)
        have HE := Lib.hid (hD.out.done hm.out (Builtin.zeroCells #[.int .i64 0, .int .i64 0, .int .i64 0] (j - m)).toList)
        have hcm : ¬ cap = m := by omega
        have hmj : (m : Int) ≤ (j : Int) := by omega
        have p0 : (0 : Int) ≤ (m : Int) := by omega
        have Ht := Lib.hid ht
        clear hD ht
        go_wp2_with fail
        go_ret
        exact ⟨by rw [← hm.out]; rfl, HE.out⟩

end Go.Proofs.Ytkkfgnnhdcmmjab
