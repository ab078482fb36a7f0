/- Packets that are forwarded for ever: the program. -/
import Derived.Test.YtjenjdhoblcohaaMg
import Derived.Test.YtjenjdhoblcohaaOi
import Derived.Test.YtjenjdhoblcohaaW1
namespace Go.Proofs.Ytjenjdhoblcohaa
open Go.RowKit

/-- Followed k times, a packet from x is still on its way. -/
def goF (h : List Int) (d : Int) : Nat → Int → Bool
  | 0, _ => true
  | k + 1, x => if x = d ∨ x < 0 ∨ (h.length : Int) ≤ x then false else goF h d k (h.getD x.toNat 0)
/-- Where it is behind k steps. -/
def itF (h : List Int) : Nat → Int → Int
  | 0, x => x
  | k + 1, x => itF h k (h.getD x.toNat 0)
theorem itF_succ (h : List Int) : ∀ (k : Nat) (x : Int), itF h (k + 1) x = h.getD (itF h k x).toNat 0
  | 0, _ => rfl
  | k + 1, x => itF_succ h k (h.getD x.toNat 0)
theorem itF_add (h : List Int) (j : Nat) (x : Int) : ∀ i, itF h (j + i) x = itF h i (itF h j x)
  | 0 => rfl
  | i + 1 => by rw [← Nat.add_assoc, itF_succ, itF_add h j x i, itF_succ]
theorem goF_iff (h : List Int) (d : Int) : ∀ (k : Nat) (x : Int), goF h d k x = true ↔ ∀ i, i < k → ¬ (itF h i x = d ∨ itF h i x < 0 ∨ (h.length : Int) ≤ itF h i x)
  | 0, x => ⟨fun _ i hi => absurd hi (Nat.not_lt_zero i), fun _ => rfl⟩
  | k + 1, x => by
    unfold goF
    split
    · rename_i hb
      exact ⟨fun h => by simp at h, fun hh => absurd hb (hh 0 (by omega))⟩
    · rename_i hb
      rw [goF_iff h d k]
      constructor
      · intro hh i hi
        cases i with
        | zero => exact hb
        | succ i => exact hh i (by omega)
      · intro hh i hi
        exact hh (i + 1) (by omega)
theorem php : ∀ (n : Nat) (f : Nat → Nat), (∀ k, k ≤ n → f k < n) → ∃ i j, i < j ∧ j ≤ n ∧ f i = f j
  | 0, f, h => absurd (h 0 (Nat.le_refl 0)) (Nat.not_lt_zero _)
  | n + 1, f, h => by
    by_cases he : ∃ i, i ≤ n ∧ f i = f (n + 1)
    · obtain ⟨i, hi, e⟩ := he
      exact ⟨i, n + 1, by omega, Nat.le_refl _, e⟩
    · have hne : ∀ i, i ≤ n → f i ≠ f (n + 1) := fun i hi e => he ⟨i, hi, e⟩
      obtain ⟨i, j, h1, h2, h3⟩ := php n (fun k => if f k = n then f (n + 1) else f k) (fun k hk => by
        show (if f k = n then f (n + 1) else f k) < n
        have h1 := h k (by omega)
        have h2 := h (n + 1) (Nat.le_refl _)
        have h3 := hne k hk
        split
        · rename_i e; omega
        · omega)
      refine ⟨i, j, h1, by omega, ?_⟩
      have hi := hne i (by omega)
      have hj := hne j h2
      split at h3 <;> split at h3 <;> omega
/-- Who has been followed as often as there are nodes and one more is followed for ever. -/
theorem goF_ever (h : List Int) (d x : Int) (hx : goF h d (h.length + 1) x = true) (m : Nat) : goF h d m x = true := by
  have hg := (goF_iff h d _ x).1 hx
  obtain ⟨i, j, hij, hj, e⟩ := php h.length (fun k => (itF h k x).toNat) (fun k hk => by
    have := hg k (by omega)
    show (itF h k x).toNat < h.length
    omega)
  have e' : itF h i x = itF h j x := by
    have h1 := hg i (by omega)
    have h2 := hg j (by omega)
    omega
  have per : ∀ q, i ≤ q → itF h (q + (j - i)) x = itF h q x := fun q hq => by
    have e1 : q + (j - i) = j + (q - i) := by omega
    have e2 : q = i + (q - i) := by omega
    rw [e1, itF_add, ← e', ← itF_add, ← e2]
  have all : ∀ q, ¬ (itF h q x = d ∨ itF h q x < 0 ∨ (h.length : Int) ≤ itF h q x) := by
    intro q
    induction q using Nat.strongRecOn with
    | ind q ih =>
      by_cases hq : q < h.length + 1
      · exact hg q hq
      · have := per (q - (j - i)) (by omega)
        rw [Nat.sub_add_cancel (by omega)] at this
        rw [this]
        exact ih _ (by omega)
  exact (goF_iff h d m x).2 fun q _ => all q
theorem goF_mono (h : List Int) (d x : Int) {k m : Nat} (hkm : k ≤ m) (hx : goF h d m x = true) : goF h d k x = true :=
  (goF_iff h d k x).2 fun i hi => (goF_iff h d m x).1 hx i (by omega)
theorem goF_same (h : List Int) (d x : Int) {k : Nat} (hk : h.length + 1 ≤ k) : goF h d k x = goF h d (h.length + 1) x := by
  cases e : goF h d (h.length + 1) x with
  | true => exact goF_ever h d x e k
  | false =>
    cases e2 : goF h d k x with
    | false => rfl
    | true => rw [goF_mono h d x hk e2] at e; cases e
/-- The nodes from which a packet is forwarded for ever. -/
def loopK (h : List Int) (d : Int) (k : Nat) : List Int := ((List.range k).map fun (i : Nat) => (i : Int)).filter fun x => goF h d (h.length + 1) x
def loopsL (h : List Int) (d : Int) : List Int := if h.length ≤ 10 then loopK h d h.length else []
theorem loopK_succ (h : List Int) (d : Int) (k : Nat) : loopK h d (k + 1) = loopK h d k ++ if goF h d (h.length + 1) (k : Int) = true then [(k : Int)] else [] := by
  unfold loopK
  rw [List.range_succ, List.map_append, List.filter_append]
  congr 1
  simp [List.filter]
  split <;> simp_all
theorem loopK_len (h : List Int) (d : Int) (k : Nat) : (loopK h d k).length ≤ k := by
  unfold loopK
  have := List.length_filter_le (fun x => goF h d (h.length + 1) x) ((List.range k).map fun (i : Nat) => (i : Int))
  simpa using this
theorem loopsL_len (h : List Int) (d : Int) : (loopsL h d).length ≤ 10 := by
  unfold loopsL
  split
  · exact Nat.le_trans (loopK_len h d _) (by assumption)
  · simp

/-- A row of numbers of its own. -/
def LoPost (Z : List Int) (w : World) (e : Ending) (w' : World) : Prop := ∃ rv, e = .returned rv ∧ Row 1 w' w.heap.size w'.heap.size rv Z.length Z ∧ Below w.heap.size w w'
theorem goF_yes {h : List Int} {d y : Int} {k : Nat} (hy : ¬ (y = d ∨ y < 0 ∨ (h.length : Int) ≤ y)) : goF h d (k + 1) y = goF h d k (h.getD y.toNat 0) := by
  show (if _ then _ else _) = _
  rw [if_neg hy]
theorem goF_no {h : List Int} {d y : Int} {k : Nat} (hy : y = d ∨ y < 0 ∨ (h.length : Int) ≤ y) : goF h d (k + 1) y = false := by
  show (if _ then _ else _) = _
  rw [if_pos hy]

set_option maxRecDepth 100000 in
set_option maxHeartbeats 4000000 in
theorem circ_any (Z : List Int) (lo hi n : Nat) (v : Value) (x d : Int) (w : World) (hn : n ≤ 10) (hr : Row 1 w lo hi v n Z) :
    Calls Try.prog 60 #[v, .int .i64 x, .int .i64 d] w fun e w' => e = .returned (.bool (goF Z d (n + 1) x)) ∧ w = w' := by
  have hZl : Z.length = n := by have := hr.1; omega
  obtain ⟨ad, cp, rfl, _, hc⟩ := hr.opened
  have HC := Lib.hid hc
  have HZ := Lib.hid hZl
  have hw1 : IntKind.i64.wrap ((n : Int) + 1) = (n : Int) + 1 := by rw [IntKind.wrap_i64]; omega
  clear hc hr hZl
  go_enter Try.func60, Try.ntmps60
  go_wp2
  go_loop [1, 10] (fun xv i => ∃ (y : Int) (k : Nat), xv = .int .i64 y ∧ i = .int .i64 (k : Int) ∧ k ≤ n + 1 ∧ Hid (goF Z d (n + 1 - k) y = goF Z d (n + 1) x)) (fun _ i => n + 1 - (intOf i).toNat)
  case atStart => exact ⟨x, 0, rfl, rfl, by omega, Lib.hid rfl⟩
  case round =>
    obtain ⟨y, k, rfl, rfl, hk, hG⟩ := hrel
    by_cases hlt : k < n + 1
    · have q0 : (k : Int) < (n : Int) + 1 := by omega
      obtain ⟨m, hm⟩ : ∃ m, n + 1 - k = m + 1 := ⟨n - k, by omega⟩
      rw [hm] at hG
      have Hm := Lib.hid hm
      clear hm
      by_cases hd : y = d
      · have hf : goF Z d (n + 1) x = false := by rw [← hG.out]; exact goF_no (.inl hd)
        rw [hf]
        have e1 : (y == d) = true := by simp [hd]
        clear hd
        go_wp2
        go_ret
        exact ⟨rfl, rfl⟩
      · have e1 : (y == d) = false := by simp [hd]
        have e1b : (y != d) = true := by simp [hd]
        by_cases h0 : y < 0
        · have hf : goF Z d (n + 1) x = false := by rw [← hG.out]; exact goF_no (.inr (.inl h0))
          rw [hf]
          clear hd
          go_wp2
          go_ret
          exact ⟨rfl, rfl⟩
        · by_cases h1 : (n : Int) ≤ y
          · have hf : goF Z d (n + 1) x = false := by rw [← hG.out]; exact goF_no (.inr (.inr (by rw [HZ.out]; exact h1)))
            rw [hf]
            clear hd
            go_wp2
            go_ret
            exact ⟨rfl, rfl⟩
          · obtain ⟨q, rfl⟩ : ∃ q : Nat, y = (q : Int) := ⟨y.toNat, by omega⟩
            have hq : q < n := by omega
            obtain ⟨g, rfl, hg, hcell⟩ := HC.out (by omega)
            obtain ⟨z, hz⟩ : ∃ z, Z[q]? = some z := ⟨Z[q]'(by rw [HZ.out]; exact hq), List.getElem?_eq_getElem _⟩
            have z0 : w.cell? ⟨g, q, none⟩ = some (.int .i64 z) := hcell _ _ hz
            have HG2 : Hid (goF Z d (n + 1 - (k + 1)) z = goF Z d (n + 1) x) := by
              have e : n + 1 - (k + 1) = m := by have := Hm.out; omega
              have hzz : Z.getD (q : Int).toNat 0 = z := by rw [Int.toNat_natCast, List.getD_eq_getElem?_getD, hz]; rfl
              rw [e, ← hG.out, goF_yes (by rw [HZ.out]; omega), hzz]
              exact rfl
            clear hG hcell hz hd
            have q2 : (q : Int) < (n : Int) := by omega
            have q3 : (0 : Int) ≤ (q : Int) := by omega
            go_wp2
            go_round
            case rel => exact ⟨z, k + 1, rfl, by go_num, by omega, HG2⟩
            case measure => simp [intOf]; omega
    · obtain rfl : k = n + 1 := by omega
      have hf : goF Z d (n + 1) x = true := by rw [← hG.out, Nat.sub_self]; rfl
      rw [hf]
      have q0 : ¬ (((n + 1 : Nat) : Int) < (n : Int) + 1) := by omega
      go_wp2
      go_ret
      exact ⟨rfl, rfl⟩

set_option maxRecDepth 100000 in
set_option maxHeartbeats 4000000 in
theorem iloops_any (Z : List Int) (lo hi n : Nat) (v : Value) (d : Int) (w : World) (hr : Row 1 w lo hi v n Z) (hh : hi ≤ w.heap.size) :
    Calls Try.prog 24 #[v, .int .i64 d] w (LoPost (loopsL Z d) w) := by
  have hZl : Z.length = n := by have := hr.1; omega
  have HR := Lib.hid hr
  have HZ := Lib.hid hZl
  obtain ⟨ad, cp, rfl, hn1, _⟩ := hr.opened
  clear hr hZl
  by_cases hn : n ≤ 10
  · have hle : ¬ ((n : Int) > 10) := by omega
    have hlv : loopsL Z d = loopK Z d n := by unfold loopsL; rw [HZ.out, if_pos hn]
    rw [hlv]
    obtain ⟨i3, hi3, hz0, hz1, hz2⟩ := info_parts Try.info3
    have I := Lib.hid (And.intro hi3 (And.intro hz0 (And.intro hz1 hz2)))
    clear hi3 hz0 hz1 hz2 hlv
    go_enter Try.func24, Try.ntmps24
    go_wp2_with fail
    go_loopw [5, 12] (fun v i wr => ∃ k : Nat, k ≤ n ∧ i = .int .i64 (k : Int) ∧ Hid (OwnI w wr v (loopK Z d k).length (loopK Z d k))) (fun _ i _ => n - (intOf i).toNat)
    case atStart => exact ⟨0, Nat.zero_le _, rfl, Lib.hid (OwnI.nil w)⟩
    case round =>
      obtain ⟨k, hk, rfl, hR⟩ := hrel
      have hkl := loopK_len Z d k
      have hkn := loopK_succ Z d k
      obtain ⟨Y, hY⟩ : ∃ Y, Y = loopK Z d k := ⟨_, rfl⟩
      rw [← hY] at hR hkl hkn
      have Hkn := Lib.hid hkn
      have HY := Lib.hid hY
      have hsz := hR.out.below.size
      have HRw : Hid (Row 1 wr lo hi (.slice ad n cp) n Z) := HR.out.below hR.out.below hh
      clear hY hkn
      obtain ⟨oa, oc, hov⟩ := own_slice hR.out.row
      subst hov
      by_cases hlt : k < n
      · have q0 : (k : Int) < (n : Int) := by omega
        go_wp2_with fail
        go_at_call 60
        refine (circ_any Z lo hi n _ (k : Int) d _ hn HRw.out).mono ?_
        rintro e w2 ⟨rfl, rfl⟩
        have e2 : goF Z d (Z.length + 1) (k : Int) = goF Z d (n + 1) (k : Int) := by rw [HZ.out]
        rw [e2] at Hkn
        clear e2
        cases hb : goF Z d (n + 1) (k : Int) with
        | true =>
          rw [hb] at Hkn
          have Hw := Lib.hid hR.out.row
          go_wp2_with (at_builtin; refine wpList_append_lies _ rfl _ _ 33 rfl w.heap.size 3 i3 (.int .i64 0) 1 8 Try.underlying33 I.out.1 I.out.2.1 I.out.2.2.1 I.out.2.2.2 rfl (by decide) _ Y.length (ints Y) rfl (Hw.out.alloc _) ⟨wr.heap.size, 0, none⟩ 1 1 [.int .i64 (k : Int)] rfl rfl ?d0 (int_one _) (by decide) ?d1 ?d2 ?d3 _ rfl ?_)
          case d0 => exact fun a u ha => cell_one_new _ _ 3 rfl a u ha
          case d1 => unfold maxLen; omega
          case d2 => omega
          case d3 => simp; omega
          intro g4 cap4 w4 hown4 hgrow4 hat4 hlt4
          have HF : Hid (OwnI w w4 (.slice (some ⟨g4, 0, none⟩) (Y.length + 1) cap4) (loopK Z d (k + 1)).length (loopK Z d (k + 1))) := by
            rw [Hkn.out, if_pos trivial, show (Y ++ [(k : Int)]).length = Y.length + 1 by simp]
            exact (hR.out.grow ((Below.refl _ _).alloc (Nat.le_refl _) _)).app hgrow4 hown4
          clear hown4 hgrow4 hat4 hlt4 hR Hw Hkn
          go_wp2_with fail
          go_roundw
          case rel => exact ⟨k + 1, by omega, by go_num, HF⟩
          case measure => simp [intOf]; omega
        | false =>
          rw [hb] at Hkn
          have HF : Hid (OwnI w wr (.slice oa Y.length oc) (loopK Z d (k + 1)).length (loopK Z d (k + 1))) := by
            rw [Hkn.out, if_neg Bool.false_ne_true, List.append_nil]
            exact hR
          clear hR Hkn
          go_wp2_with fail
          go_roundw
          case rel => exact ⟨k + 1, by omega, by go_num, HF⟩
          case measure => simp [intOf]; omega
      · obtain rfl : k = n := by omega
        have hge : ¬ ((k : Int) < (k : Int)) := by omega
        go_wp2_with fail
        go_ret
        rw [← HY.out]
        exact ⟨_, rfl, hR.out.toRow (by omega), hR.out.below⟩
  · have hgt : (n : Int) > 10 := by omega
    have hlv : loopsL Z d = [] := by unfold loopsL; rw [HZ.out, if_neg hn]
    rw [hlv]
    clear hlv
    go_enter Try.func24, Try.ntmps24
    go_wp2_with fail
    go_ret
    exact ⟨_, rfl, Row.empty 1 _ _ _ _ _, Below.refl _ _⟩

set_option maxRecDepth 100000 in
set_option maxHeartbeats 4000000 in
theorem sloops_any (Z : List Int) (lo hi n : Nat) (v : Value) (d : Int) (w : World) (hr : Row 1 w lo hi v n Z) (hh : hi ≤ w.heap.size) :
    Calls Try.prog 23 #[v, .int .i64 d] w (LoPost (loopsL Z d) w) := by
  have hZl : Z.length = n := by have := hr.1; omega
  have HR := Lib.hid hr
  have HZ := Lib.hid hZl
  obtain ⟨ad, cp, rfl, hn1, _⟩ := hr.opened
  clear hr hZl
  by_cases hn : n ≤ 10
  · have hle : ¬ ((n : Int) > 10) := by omega
    have hlv : loopsL Z d = loopK Z d n := by unfold loopsL; rw [HZ.out, if_pos hn]
    rw [hlv]
    obtain ⟨i3, hi3, hz0, hz1, hz2⟩ := info_parts Try.info3
    have I := Lib.hid (And.intro hi3 (And.intro hz0 (And.intro hz1 hz2)))
    clear hi3 hz0 hz1 hz2 hlv
    go_enter Try.func23, Try.ntmps23
    go_wp2_with fail
    obtain ⟨v1, hv1⟩ : ∃ v1, v1 = w.alloc (.cells #[] 3) := ⟨_, rfl⟩
    have HO : Hid (OwnI w v1 (.slice (some ⟨w.heap.size, 0, none⟩) 0 0) (loopK Z d 0).length (loopK Z d 0)) := by rw [hv1]; exact Lib.hid (OwnI.lit0 w)
    rw [← hv1]
    clear hv1
    go_loopw [5, 6, 7, 8] (fun v i _ _ wr => ∃ k : Nat, k ≤ n ∧ i = .int .i64 (k : Int) ∧ Hid (OwnI w wr v (loopK Z d k).length (loopK Z d k))) (fun _ i _ _ _ => n - (intOf i).toNat)
    case atStart => exact ⟨0, Nat.zero_le _, rfl, HO⟩
    case round =>
      obtain ⟨k, hk, rfl, hR⟩ := hrel
      have hkl := loopK_len Z d k
      have hkn := loopK_succ Z d k
      obtain ⟨Y, hY⟩ : ∃ Y, Y = loopK Z d k := ⟨_, rfl⟩
      rw [← hY] at hR hkl hkn
      have Hkn := Lib.hid hkn
      have HY := Lib.hid hY
      have hsz := hR.out.below.size
      have HRw : Hid (Row 1 wr lo hi (.slice ad n cp) n Z) := HR.out.below hR.out.below hh
      clear hY hkn
      obtain ⟨oa, oc, hov⟩ := own_slice hR.out.row
      subst hov
      by_cases hlt : k < n
      · have q0 : (k : Int) < (n : Int) := by omega
        have hb10 : inB (k : Int) 0 ((n : Int) - 1) = true := by rw [inB_iff]; omega
        have hw1 : IntKind.i64.wrap ((n : Int) - 1) = (n : Int) - 1 := by rw [IntKind.wrap_i64]; omega
        clear hb10
        go_wp2_with fail
        go_loop [7, 8] (fun xv i => ∃ (y : Int) (j : Nat), xv = .int .i64 y ∧ i = .int .i64 (j : Int) ∧ j ≤ n + 1 ∧ Hid (goF Z d (n + 2 - j) y = goF Z d (n + 2) (k : Int))) (fun _ i => n + 1 - (intOf i).toNat)
        case atStart => exact ⟨(k : Int), 0, rfl, rfl, by omega, Lib.hid rfl⟩
        case round =>
          obtain ⟨y, j, rfl, rfl, hj, hG⟩ := hrel
          by_cases hjn : j ≤ n
          · have p0 : (j : Int) ≤ (n : Int) := by omega
            obtain ⟨m, hm⟩ : ∃ m, n + 2 - j = m + 1 := ⟨n + 1 - j, by omega⟩
            rw [hm] at hG
            have Hm := Lib.hid hm
            clear hm
            by_cases hd : y = d
            · have hf : goF Z d (n + 2) (k : Int) = false := by rw [← hG.out]; exact goF_no (.inl hd)
              have HF : Hid (OwnI w wr (.slice oa Y.length oc) (loopK Z d (k + 1)).length (loopK Z d (k + 1))) := by
                rw [Hkn.out, if_neg (by rw [← goF_same Z d (k : Int) (k := n + 2) (by rw [HZ.out]; omega), hf]; exact Bool.false_ne_true), List.append_nil]
                exact hR
              clear hf hR Hkn hG
              subst hd
              go_wp2_with fail
              go_roundw
              case rel => exact ⟨k + 1, by omega, by go_num, HF⟩
              case measure => simp [intOf]; omega
            · have e1 : (y == d) = false := by simp [hd]
              have e1b : (y != d) = true := by simp [hd]
              by_cases hin : inB y 0 ((n : Int) - 1) = true
              · go_wp2_with fail
                go_at_call 59
                refine (in_any y 0 ((n : Int) - 1) _).mono ?_
                rw [hin]
                rintro e w2 ⟨rfl, rfl⟩
                rw [inB_iff] at hin
                obtain ⟨q, rfl⟩ : ∃ q : Nat, y = (q : Int) := ⟨y.toNat, by omega⟩
                have hq : q < n := by omega
                obtain ⟨g, c', hv, hg, _, _, hcell⟩ : ∃ g c', Value.slice ad n cp = .slice (some ⟨g, 0, none⟩) n c' ∧ lo ≤ g ∧ g < hi ∧ True ∧ ∀ q z, Z[q]? = some z → wr.cell? ⟨g, q, none⟩ = some (.int .i64 z) := by
                  obtain ⟨_, h | ⟨g, c', e, h1, h2, _, h3, _⟩⟩ := HRw.out
                  · omega
                  · exact ⟨g, c', e, h1, h2, trivial, h3⟩
                cases hv
                obtain ⟨z, hz⟩ : ∃ z, Z[q]? = some z := ⟨Z[q]'(by rw [HZ.out]; exact hq), List.getElem?_eq_getElem _⟩
                have z0 : wr.cell? ⟨g, q, none⟩ = some (.int .i64 z) := hcell _ _ hz
                have HG2 : Hid (goF Z d (n + 2 - (j + 1)) z = goF Z d (n + 2) (k : Int)) := by
                  have e : n + 2 - (j + 1) = m := by have := Hm.out; omega
                  have hzz : Z.getD (q : Int).toNat 0 = z := by rw [Int.toNat_natCast, List.getD_eq_getElem?_getD, hz]; rfl
                  rw [e, ← hG.out, goF_yes (by rw [HZ.out]; omega), hzz]
                  exact rfl
                clear hG hcell hz hd hin
                have q2 : (q : Int) < (n : Int) := by omega
                have q3 : (0 : Int) ≤ (q : Int) := by omega
                go_wp2_with fail
                go_round
                case rel => exact ⟨z, j + 1, rfl, by go_num, by omega, HG2⟩
                case measure => simp [intOf]; omega
              · have hin0 : inB y 0 ((n : Int) - 1) = false := by simpa using hin
                have hf : goF Z d (n + 2) (k : Int) = false := by
                  rw [← hG.out]
                  refine goF_no (.inr ?_)
                  rw [inB_iff] at hin
                  rw [HZ.out]
                  omega
                have HF : Hid (OwnI w wr (.slice oa Y.length oc) (loopK Z d (k + 1)).length (loopK Z d (k + 1))) := by
                  rw [Hkn.out, if_neg (by rw [← goF_same Z d (k : Int) (k := n + 2) (by rw [HZ.out]; omega), hf]; exact Bool.false_ne_true), List.append_nil]
                  exact hR
                clear hf hR Hkn hG hin hd
                go_wp2_with fail
                go_at_call 59
                refine (in_any y 0 ((n : Int) - 1) _).mono ?_
                rw [hin0]
                rintro e w2 ⟨rfl, rfl⟩
                go_wp2_with fail
                go_at_call 59
                refine (in_any y 0 ((n : Int) - 1) _).mono ?_
                rw [hin0]
                rintro e w2 ⟨rfl, rfl⟩
                go_wp2_with fail
                go_roundw
                case rel => exact ⟨k + 1, by omega, by go_num, HF⟩
                case measure => simp [intOf]; omega
          · have p0 : ¬ ((j : Int) ≤ (n : Int)) := by omega
            have hm : n + 2 - j = 0 + 1 := by omega
            rw [hm] at hG
            clear hm
            by_cases hd : y = d
            · have hf : goF Z d (n + 2) (k : Int) = false := by rw [← hG.out]; exact goF_no (.inl hd)
              have HF : Hid (OwnI w wr (.slice oa Y.length oc) (loopK Z d (k + 1)).length (loopK Z d (k + 1))) := by
                rw [Hkn.out, if_neg (by rw [← goF_same Z d (k : Int) (k := n + 2) (by rw [HZ.out]; omega), hf]; exact Bool.false_ne_true), List.append_nil]
                exact hR
              clear hf hR Hkn hG
              subst hd
              go_wp2_with fail
              go_roundw
              case rel => exact ⟨k + 1, by omega, by go_num, HF⟩
              case measure => simp [intOf]; omega
            · have e1 : (y == d) = false := by simp [hd]
              have e1b : (y != d) = true := by simp [hd]
              by_cases hin : inB y 0 ((n : Int) - 1) = true
              · have hf : goF Z d (n + 2) (k : Int) = true := by
                  rw [← hG.out, goF_yes (by rw [inB_iff] at hin; rw [HZ.out]; omega)]
                  rfl
                have HK : Hid (goF Z d (Z.length + 1) (k : Int) = true) := by rw [← goF_same Z d (k : Int) (k := n + 2) (by rw [HZ.out]; omega), hf]; exact rfl
                clear hf hG hd
                have Hw := Lib.hid hR.out.row
                go_wp2_with fail
                go_at_call 59
                refine (in_any y 0 ((n : Int) - 1) _).mono ?_
                rw [hin]
                rintro e w2 ⟨rfl, rfl⟩
                go_wp2_with (at_builtin; refine wpList_append_lies _ rfl _ _ 33 rfl w.heap.size 3 i3 (.int .i64 0) 1 8 Try.underlying33 I.out.1 I.out.2.1 I.out.2.2.1 I.out.2.2.2 rfl (by decide) _ Y.length (ints Y) rfl (Hw.out.alloc _) ⟨wr.heap.size, 0, none⟩ 1 1 [.int .i64 (k : Int)] rfl rfl ?d0 (int_one _) (by decide) ?d1 ?d2 ?d3 _ rfl ?_)
                case d0 => exact fun a u ha => cell_one_new _ _ 3 rfl a u ha
                case d1 => unfold maxLen; omega
                case d2 => omega
                case d3 => simp; omega
                intro g4 cap4 w4 hown4 hgrow4 hat4 hlt4
                have HF : Hid (OwnI w w4 (.slice (some ⟨g4, 0, none⟩) (Y.length + 1) cap4) (loopK Z d (k + 1)).length (loopK Z d (k + 1))) := by
                  rw [Hkn.out, if_pos HK.out, show (Y ++ [(k : Int)]).length = Y.length + 1 by simp]
                  exact (hR.out.grow ((Below.refl _ _).alloc (Nat.le_refl _) _)).app hgrow4 hown4
                clear hown4 hgrow4 hat4 hlt4 hR Hw Hkn
                go_wp2_with fail
                go_roundw
                case rel => exact ⟨k + 1, by omega, by go_num, HF⟩
                case measure => simp [intOf]; omega
              · have hin0 : inB y 0 ((n : Int) - 1) = false := by simpa using hin
                have hf : goF Z d (n + 2) (k : Int) = false := by
                  rw [← hG.out]
                  refine goF_no (.inr ?_)
                  rw [inB_iff] at hin
                  rw [HZ.out]
                  omega
                have HF : Hid (OwnI w wr (.slice oa Y.length oc) (loopK Z d (k + 1)).length (loopK Z d (k + 1))) := by
                  rw [Hkn.out, if_neg (by rw [← goF_same Z d (k : Int) (k := n + 2) (by rw [HZ.out]; omega), hf]; exact Bool.false_ne_true), List.append_nil]
                  exact hR
                clear hf hR Hkn hG hin hd
                go_wp2_with fail
                go_at_call 59
                refine (in_any y 0 ((n : Int) - 1) _).mono ?_
                rw [hin0]
                rintro e w2 ⟨rfl, rfl⟩
                go_wp2_with fail
                go_roundw
                case rel => exact ⟨k + 1, by omega, by go_num, HF⟩
                case measure => simp [intOf]; omega
      · obtain rfl : k = n := by omega
        have hge : ¬ ((k : Int) < (k : Int)) := by omega
        go_wp2_with fail
        go_ret
        rw [← HY.out]
        exact ⟨_, rfl, hR.out.toRow (by omega), hR.out.below⟩
  · have hgt : (n : Int) > 10 := by omega
    have hlv : loopsL Z d = [] := by unfold loopsL; rw [HZ.out, if_neg hn]
    rw [hlv]
    clear hlv
    go_enter Try.func23, Try.ntmps23
    go_wp2_with fail
    go_ret
    exact ⟨_, rfl, Row.empty 1 _ _ _ _ _, by go_grown⟩

end Go.Proofs.Ytjenjdhoblcohaa
