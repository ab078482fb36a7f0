/- ParsePrefix of the program as a contract: it answers the one valid prefix whose text it is handed, or none. -/
import Derived.Test.YtegffibamkaeiaaDoorWt
import Derived.Test.YtegffibamkaeiaaDoorMp
import Derived.Test.YtegffibamkaeiaaDoorShelfB
import Derived.Lib.AtoiErrMem
namespace Go.Proofs.YtegffibamkaeiaaDoor
open Go.RowKit

/-- What stands in the library's variables that the calls read. -/
def Env (w : World) : Prop :=
  (∃ m, w.cell? ⟨0, 0, none⟩ = some (.int .i64 m)) ∧ (∃ t p, w.cell? ⟨1, 0, none⟩ = some (.iface t p)) ∧ (∃ t p, w.cell? ⟨2, 0, none⟩ = some (.iface t p)) ∧
  Lib.TabIs Tryd.prog w "internal/strconv.uint64pow10" .u64 Lib.pow10Tab ∧ 3 < w.heap.size
theorem Env.below {w w' : World} (h : Env w) (hb : Below w.heap.size w w') : Env w' := by
  obtain ⟨⟨m, h0⟩, ⟨t1, p1, h1⟩, ⟨t2, p2, h2⟩, ht, hz⟩ := h
  obtain ⟨hc, hf⟩ := bcell hb
  exact ⟨⟨m, by rw [hc _ _ (by omega)]; exact h0⟩, ⟨t1, p1, by rw [hc _ _ (by omega)]; exact h1⟩, ⟨t2, p2, by rw [hc _ _ (by omega)]; exact h2⟩, Joins.tab_stays Tryd.gPow ht hb (Nat.le_refl _), Nat.lt_of_lt_of_le hz hb.size⟩

theorem bytes_below (w : World) (e : TypeId) (t : ByteArray) : Below w.heap.size w (Lib.bytesWorld w e t) := Lib.bytesWorld_below w e t

def AtoiPost (w : World) (T : List UInt8) (e : Ending) (w' : World) : Prop :=
  ∃ (x : Int) (ev : Value), e = .returned (.tuple #[.int .i64 x, ev]) ∧ (∀ u : Nat, u < 1000000000000000 → T = Lib.decDigits u → x = (u : Int)) ∧ Below w.heap.size w w'

theorem nd_le : ∀ (k u : Nat), u < 10 ^ (k + 1) → Lib.nDigits u ≤ k + 1
  | 0, u, h => by rw [Lib.nDigits_small (by simpa using h)]; omega
  | k + 1, u, h => by
    by_cases h10 : u < 10
    · rw [Lib.nDigits_small h10]; omega
    · rw [Lib.nDigits_big h10]
      have := nd_le k (u / 10) (by rw [Nat.pow_succ] at h; omega)
      omega
theorem dd_len (u : Nat) (h : u < 1000000000000000) : (Lib.decDigits u).length ≤ 18 := by
  rw [Lib.decDigits_length]
  have := nd_le 17 u (by omega)
  omega

theorem atoi_any (s : ByteArray) (w : World) (hE : Env w) (hs : s.size ≤ 1048576) : Calls Tryd.prog 19 #[.string s] w (AtoiPost w s.data.toList) := by
  obtain ⟨⟨m, h0⟩, ⟨t1, p1, h1⟩, ⟨t2, p2, h2⟩, ht, hz⟩ := hE
  by_cases hd : ∃ u : Nat, u < 1000000000000000 ∧ s.data.toList = Lib.decDigits u
  · obtain ⟨u, hu, hT⟩ := hd
    have hl : s.size ≤ 18 := by
      have := dd_len u hu
      rw [← hT] at this
      simpa using this
    refine (Tryd.strconv_Atoi s (u : Int) hl (by rw [hT]; exact atoi_dd u) w).mono fun e w' ⟨he, t, hw⟩ => ⟨(u : Int), _, he, fun v _ hv => ?_, hw ▸ bytes_below w 5 t⟩
    rw [hT] at hv
    rw [dd_inj hv]
  · have no : ∀ x : Int, ∀ u : Nat, u < 1000000000000000 → s.data.toList = Lib.decDigits u → x = (u : Int) := fun x u hu hT => absurd ⟨u, hu, hT⟩ hd
    cases hA : Lib.atoiAll s.data.toList with
    | ok v =>
      refine (Tryd.strconv_Atoi_ok s (by omega) v hA w).mono fun e w' ⟨he, hw⟩ => ⟨v, _, he, no v, ?_⟩
      rcases hw with rfl | ⟨t, rfl⟩
      · exact Below.refl _ _
      · exact bytes_below w 5 t
    | range => exact (Tryd.strconv_Atoi_range s (by omega) hA _ w h2 (.inr ⟨t2, p2, rfl⟩)).mono fun e w' ⟨N, he, _, _, hb⟩ => ⟨_, _, he, no _, hb⟩
    | _ => exact (Any.strconv_Atoi_syntax Tryd.laysC172 s (by omega) hA _ w h1 (.inr ⟨t1, p1, rfl⟩)).mono fun e w' ⟨N, he, _, _, hb⟩ => ⟨_, _, he, no _, hb⟩

theorem ba_size (l : List UInt8) : (⟨l.toArray⟩ : ByteArray).size = l.length := rfl
theorem cut_any (l a b : List UInt8) (c : Bool) (x : UInt8) (hc : Lib.cut l [x] = (a, b, c)) (w : World) (hE : Env w) (hs : l.length ≤ 1048576) :
    Calls Tryd.prog 18 #[.string ⟨l.toArray⟩, .string ⟨#[x]⟩] w fun e w' => e = .returned (.tuple #[.string ⟨a.toArray⟩, .string ⟨b.toArray⟩, .bool c]) ∧ Below w.heap.size w w' := by
  obtain ⟨⟨m, h0⟩, _⟩ := hE
  refine (Tryd.strings_Cut ⟨l.toArray⟩ ⟨#[x]⟩ m w (by rw [ba_size]; omega) h0).mono fun e w' ⟨he, n, hw⟩ => ⟨?_, hw ▸ below_drewN (Below.refl _ _) n⟩
  rw [he]
  simp only [hc]

theorem box_later {w w2 : World} {c0 c1 : Value} {T : TypeId} (h : Below (w.alloc (.cells #[c0, c1] T)).heap.size (w.alloc (.cells #[c0, c1] T)) w2) :
    w2.cell? ⟨w.heap.size, 0, none⟩ = some c0 ∧ w2.cell? ⟨w.heap.size, 1, none⟩ = some c1 ∧ w2.frozen? ⟨w.heap.size, 0, none⟩ = false ∧ w2.frozen? ⟨w.heap.size, 1, none⟩ = false ∧ w.heap.size < w2.heap.size := by
  obtain ⟨hc, hf⟩ := bcell h
  have hz := h.size
  simp at hz
  exact ⟨by rw [hc _ _ (by simp)]; simp, by rw [hc _ _ (by simp)]; simp, by rw [hf _ _ (by simp)]; simp, by rw [hf _ _ (by simp)]; simp, by omega⟩
/-- The result's box, kept by a later call. -/
theorem res_keep {w w1 w2 : World} {c0 c1 : Value} (h : w1.cell? ⟨w.heap.size, 0, none⟩ = some c0 ∧ w1.cell? ⟨w.heap.size, 1, none⟩ = some c1 ∧ w1.frozen? ⟨w.heap.size, 0, none⟩ = false ∧ w1.frozen? ⟨w.heap.size, 1, none⟩ = false ∧ w.heap.size < w1.heap.size) (hb : Below w1.heap.size w1 w2) :
    w2.cell? ⟨w.heap.size, 0, none⟩ = some c0 ∧ w2.cell? ⟨w.heap.size, 1, none⟩ = some c1 ∧ w2.frozen? ⟨w.heap.size, 0, none⟩ = false ∧ w2.frozen? ⟨w.heap.size, 1, none⟩ = false ∧ w.heap.size < w2.heap.size := by
  obtain ⟨h0, h1, h2, h3, h4⟩ := h
  obtain ⟨hc, hf⟩ := bcell hb
  exact ⟨by rw [hc _ _ h4]; exact h0, by rw [hc _ _ h4]; exact h1, by rw [hf _ _ h4]; exact h2, by rw [hf _ _ h4]; exact h3, Nat.lt_of_lt_of_le h4 hb.size⟩

/-- What parsing answers: the one valid prefix whose text it is, or none. -/
def ParsePost (w : World) (T : List UInt8) (e : Ending) (w' : World) : Prop :=
  ((∃ net n, IsText T net n ∧ e = .returned (.tuple #[.agg #[.int .i64 net, .int .i64 n], .bool true])) ∨ ((∀ net n, ¬ IsText T net n) ∧ e = .returned (.tuple #[.agg #[.int .i64 0, .int .i64 0], .bool false]))) ∧ Below w.heap.size w w'

theorem cut_len (s sep : List UInt8) : (Lib.cut s sep).1.length ≤ s.length ∧ (Lib.cut s sep).2.1.length ≤ s.length := by
  unfold Lib.cut
  split
  · simp; omega
  · simp

theorem atoi_list (l : List UInt8) (w : World) (hE : Env w) (hs : l.length ≤ 1048576) : Calls Tryd.prog 19 #[.string ⟨l.toArray⟩] w (AtoiPost w l) := by
  have h := atoi_any ⟨l.toArray⟩ w hE (by rw [ba_size]; exact hs)
  simpa only [List.toList_toArray] using h

theorem ptext_list (net n : Int) : ptext net n = ⟨(textL net n).toArray⟩ := by
  unfold ptext textL
  apply ByteArray.ext
  simp [ByteArray.data_append]
theorem ptext_toList (net n : Int) : (ptext net n).toList = textL net n := by rw [ptext_list]; simp [go_sem]
theorem text_of {l : List UInt8} {net n : Int} (h : (ptext net n).toList = l) : l = textL net n := by rw [← h, ptext_toList]
theorem text_to {l : List UInt8} {net n : Int} (h : IsText l net n) : (ptext net n).toList = l := by rw [ptext_toList, h.2]
theorem cand {l P1 P2 Q1 Q2 : List UInt8} {P3 Q3 : Bool} {net n x y z : Int} (h : IsText l net n) (hc1 : Lib.cut l [47] = (P1, P2, P3)) (hc2 : Lib.cut P1 [46] = (Q1, Q2, Q3))
    (hx : ∀ u : Nat, u < 1000000000000000 → Q1 = Lib.decDigits u → x = (u : Int)) (hy : ∀ u : Nat, u < 1000000000000000 → Q2 = Lib.decDigits u → y = (u : Int)) (hz : ∀ u : Nat, u < 1000000000000000 → P2 = Lib.decDigits u → z = (u : Int)) :
    wrap64 (wrap64 (x * 256) + y) = net ∧ z = n := by
  obtain ⟨a1, a2⟩ := h.cuts
  rw [hc1] at a1
  simp only [Prod.mk.injEq] at a1
  obtain ⟨rfl, rfl, _⟩ := a1
  rw [hc2] at a2
  simp only [Prod.mk.injEq] at a2
  obtain ⟨rfl, rfl, _⟩ := a2
  have p := pokB_true h.1
  have e1 := hx _ (by omega) rfl
  have e2 := hy _ (by omega) rfl
  have e3 := hz _ (by omega) rfl
  rw [w_in (x := x * 256) (by omega) (by omega), w_in (by omega) (by omega)]
  omega

set_option maxHeartbeats 4000000 in
theorem parse_walk (l P1 P2 Q1 Q2 : List UInt8) (P3 Q3 : Bool) (w : World) (hE : Env w) (hs : l.length ≤ 1048576) (hc1 : Lib.cut l [47] = (P1, P2, P3)) (hc2 : Lib.cut P1 [46] = (Q1, Q2, Q3)) (l1 : P1.length ≤ 1048576) (l2 : P2.length ≤ 1048576) (l3 : Q1.length ≤ 1048576) (l4 : Q2.length ≤ 1048576) :
    Calls Tryd.prog 9 #[.string ⟨l.toArray⟩] w (ParsePost w l) := by
  have HE := Lib.hid hE
  have H1 := Lib.hid hc1
  have H2 := Lib.hid hc2
  have hz : 3 < w.heap.size := hE.2.2.2.2
  clear hE hc1 hc2
  go_enter Tryd.func9, Tryd.ntmps9
  go_wp2_with fail
  go_at_call 18
  refine (cut_any l P1 P2 P3 47 H1.out _ (HE.out.below (by go_grown)) hs).mono ?_
  rintro e w1 ⟨rfl, hb1⟩
  have B1 : Below w.heap.size w w1 := unbox hb1
  have r1 := box_later hb1
  have HB1 := Lib.hid B1
  clear B1 hb1
  go_wp2_with fail
  go_at_call 18
  refine (cut_any P1 Q1 Q2 Q3 46 H2.out _ (HE.out.below HB1.out) l1).mono ?_
  rintro e w2 ⟨rfl, hb2⟩
  have B2 : Below w.heap.size w w2 := HB1.out.trans (hb2.mono HB1.out.size)
  have r2 := res_keep r1 hb2
  have HB2 := Lib.hid B2
  clear B2 hb2 r1
  go_wp2_with fail
  go_at_call 19
  refine (atoi_list Q1 _ (HE.out.below HB2.out) l3).mono ?_
  rintro e w3 ⟨x3, ev3, rfl, hx3, hb3⟩
  have B3 : Below w.heap.size w w3 := HB2.out.trans (hb3.mono HB2.out.size)
  have r3 := res_keep r2 hb3
  have HB3 := Lib.hid B3
  have HX3 := Lib.hid hx3
  clear B3 hb3 hx3 r2
  go_wp2_with fail
  go_at_call 19
  refine (atoi_list Q2 _ (HE.out.below HB3.out) l4).mono ?_
  rintro e w4 ⟨x4, ev4, rfl, hx4, hb4⟩
  have B4 : Below w.heap.size w w4 := HB3.out.trans (hb4.mono HB3.out.size)
  have r4 := res_keep r3 hb4
  have HB4 := Lib.hid B4
  have HX4 := Lib.hid hx4
  clear B4 hb4 hx4 r3
  go_wp2_with fail
  go_at_call 19
  refine (atoi_list P2 _ (HE.out.below HB4.out) l2).mono ?_
  rintro e w5 ⟨x5, ev5, rfl, hx5, hb5⟩
  have B5 : Below w.heap.size w w5 := HB4.out.trans (hb5.mono HB4.out.size)
  have r5 := res_keep r4 hb5
  have HB5 := Lib.hid B5
  have HX5 := Lib.hid hx5
  clear B5 hb5 hx5 r4
  go_wp2_with fail
  have hcand : ∀ net n, IsText l net n → wrap64 (wrap64 (x3 * 256) + x4) = net ∧ x5 = n := fun net n h => cand h H1.out H2.out HX3.out HX4.out HX5.out
  generalize wrap64 (wrap64 (x3 * 256) + x4) = N at *
  have HC := Lib.hid hcand
  clear hcand
  go_at_call 13
  refine (pok_any N x5 _).mono ?_
  rintro e w6 ⟨rfl, hb6⟩
  have p6 := box_later hb6
  have B6 := unbox hb6
  have r6 := res_keep r5 B6
  have BB6 : Below w.heap.size w w6 := HB5.out.trans (B6.mono HB5.out.size)
  have HB6 := Lib.hid BB6
  clear BB6 B6 hb6 r5
  by_cases hp : pokB N x5 = true
  · rw [hp]
    have HP := Lib.hid hp
    clear hp
    go_wp2_with fail
    go_at_call 7
    refine (text_yes N x5 _ HP.out (HE.out.below HB6.out).2.2.2.1).mono ?_
    rintro e w7 ⟨rfl, hb7⟩
    have p7 := res_keep p6 hb7
    have r7 := res_keep r6 hb7
    have BB7 : Below w.heap.size w w7 := HB6.out.trans (hb7.mono HB6.out.size)
    have HB7 := Lib.hid BB7
    clear BB7 hb7 p6 r6
    by_cases heq : (ptext N x5).toList = l
    · have hq : ((ptext N x5).toList == l) = true := by rw [beq_iff_eq]; exact heq
      have HQ := Lib.hid heq
      clear heq
      go_wp2
      refine bodyPost_ret (v := .tuple #[.agg #[.int .i64 N, .int .i64 x5], .bool true]) (by simp [results, Tryd.results9, go_sem, r7]) rfl ⟨.inl ⟨N, x5, ⟨HP.out, text_of HQ.out⟩, rfl⟩, ?_⟩
      exact (HB7.out.setCell (by simp) _).setCell (by simp) _
    · have hq : ((ptext N x5).toList == l) = false := by rw [beq_eq_false_iff_ne]; exact heq
      have HQ := Lib.hid heq
      clear heq
      go_wp2
      refine bodyPost_ret (v := .tuple #[.agg #[.int .i64 0, .int .i64 0], .bool false]) (by simp [results, Tryd.results9, go_sem, r7]) rfl ⟨.inr ⟨fun net n h => ?_, rfl⟩, ?_⟩
      · obtain ⟨rfl, rfl⟩ := HC.out net n h
        exact HQ.out (text_to h)
      · exact (HB7.out.setCell (by simp) _).setCell (by simp) _
  · have hp' : pokB N x5 = false := by simpa using hp
    have HP := Lib.hid hp
    rw [hp']
    clear hp hp'
    go_wp2
    refine bodyPost_ret (v := .tuple #[.agg #[.int .i64 0, .int .i64 0], .bool false]) (by simp [results, Tryd.results9, go_sem, r6]) rfl ⟨.inr ⟨fun net n h => ?_, rfl⟩, ?_⟩
    · obtain ⟨rfl, rfl⟩ := HC.out net n h
      exact HP.out h.1
    · exact (HB6.out.setCell (by simp) _).setCell (by simp) _

theorem parse_any (l : List UInt8) (w : World) (hE : Env w) (hs : l.length ≤ 1048576) : Calls Tryd.prog 9 #[.string ⟨l.toArray⟩] w (ParsePost w l) := by
  rcases hc1 : Lib.cut l [47] with ⟨P1, P2, P3⟩
  rcases hc2 : Lib.cut P1 [46] with ⟨Q1, Q2, Q3⟩
  have a := cut_len l [47]
  have b := cut_len P1 [46]
  rw [hc1] at a
  rw [hc2] at b
  simp only at a b
  exact parse_walk l P1 P2 Q1 Q2 P3 Q3 w hE hs hc1 hc2 (by omega) (by omega) (by omega) (by omega)

end Go.Proofs.YtegffibamkaeiaaDoor
