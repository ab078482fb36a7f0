/- Aggregate of the program as a contract. -/
import Derived.Test.YtpfeekdmeloakaaRi
import Derived.Test.YtpfeekdmeloakaaOf
import Derived.Test.YtpfeekdmeloakaaMh
namespace Go.Proofs.Ytpfeekdmeloakaa
open Go.RowKit

theorem pre_any (r : Pf) (w : World) (hr : 0 ≤ r.1 ∧ r.1 ≤ r.2 ∧ r.2 ≤ 65535) :
    Calls Try.prog 81 #[.agg #[.int .i64 r.1, .int .i64 r.2]] w fun e w' => ∃ g cap, e = .returned (.slice (some ⟨g, 0, none⟩) (tr r).length cap) ∧ (∀ q z, (flat2 (tr r))[q]? = some z → w'.cell? ⟨g, q, none⟩ = some (.int .i64 z)) ∧ Below w.heap.size w w' := by
  refine (Old.prefixes_any r.1 r.2 w).mono ?_
  rintro e w' ⟨v, rfl, hrow, hB⟩
  rcases hrow with ⟨h0, _⟩ | ⟨g, cap, rfl, _, _, _, h4, _⟩
  · have := (tr_len hr).1
    unfold tr at this
    rw [h0] at this
    simp at this
  · refine ⟨g, cap, rfl, fun q z hz => ?_, hB⟩
    obtain ⟨p, hp, hq⟩ := flat2_split hz
    obtain ⟨c0, c1⟩ := h4 _ _ hp
    rcases hq with ⟨hq, rfl⟩ | ⟨hq, rfl⟩
    · rw [← hq] at c0; exact c0
    · rw [← hq] at c1; exact c1

/-- What the loop keeps. -/
def IaRel (w wr : World) (v : Value) (O : List Pf) : Prop :=
  Below w.heap.size w wr ∧ wr.ownsRow w.heap.size 39 2 v O.length (ints (flat2 O))
theorem own_below {w w2 : World} {base n k : Nat} {e : TypeId} {v : Value} {xs : List Value} (h : w.ownsRow base e k v n xs) (hb : Below w.heap.size w w2) : w2.ownsRow base e k v n xs := by
  obtain ⟨h1, h2⟩ := h
  refine ⟨h1, ?_⟩
  rcases h2 with h2 | ⟨g, cap, cur, e, h3, h4, h5⟩
  · exact .inl h2
  · refine .inr ⟨g, cap, cur, e, h3, ?_, h5⟩
    rw [hb.block g (Array.getElem?_eq_some_iff.1 h4).1]
    exact h4
theorem IaRel.below {w wr w2 : World} {v : Value} {O : List Pf} (h : IaRel w wr v O) (hb : Below wr.heap.size wr w2) : IaRel w w2 v O := ⟨chain h.1 hb, own_below h.2 hb⟩
theorem IaRel.app {w wr w1 : World} {v v' : Value} {O P : List Pf} (h : IaRel w wr v O) (hg : wr.grownBy w1 v.ownBlock) (hown : w1.ownsRow w.heap.size 39 2 v' (O.length + P.length) (ints (flat2 O) ++ ints (flat2 P))) : IaRel w w1 v' (O ++ P) := by
  refine ⟨h.1.grown hg h.1.size (fun k hk => (h.2.lt k hk).1), ?_⟩
  rw [flat2_app, ints_app, List.length_append]
  exact hown
theorem agg_take {R : List Pf} {k : Nat} {r : Pf} (h : R[k]? = some r) : aggR (R.take (k + 1)) = aggR (R.take k) ++ tr r := by
  rw [List.take_add_one, h]; exact aggR_snoc _ _
theorem Rgs.take {R : List Pf} (h : Rgs R) (k : Nat) : Rgs (R.take k) := ⟨fun r hr => h.1 r (List.mem_of_mem_take hr), h.2.sublist (List.take_sublist _ _)⟩

set_option maxRecDepth 100000 in
set_option maxHeartbeats 4000000 in
theorem iagg_yes (lo hi n : Nat) (v : Value) (L R : List Pf) (w : World) (hL : L.length = n) (hr : Row 2 w lo hi v n (flat2 L)) (hh : hi ≤ w.heap.size) (hn : n ≤ 300) (hok : ∀ p ∈ L, pokB p.1 p.2 = true) (hS : Says (anyP L) R) :
    Calls Try.prog 36 #[v] w fun e w' => ∃ rv, e = .returned (.tuple #[rv, .bool true]) ∧ Row 2 w' w.heap.size w'.heap.size rv (aggR R).length (flat2 (aggR R)) ∧ Below w.heap.size w w' := by
  have HP := prefixesOk_any lo hi n v L w hL hr hh (by omega)
  have ha : allOk L = true := by unfold allOk; rw [hL, decide_eq_true hn, Bool.true_and, List.all_eq_true]; exact hok
  rw [ha] at HP
  have HP' := Lib.hid HP
  have HR := Lib.hid (fun w1 (hb : Below w.heap.size w w1) => ranges_any lo hi n v L w1 hL (hr.below hb hh) (Nat.le_trans hh hb.size) hn hok)
  have Hok := Lib.hid hok
  have HS := Lib.hid hS
  obtain ⟨i39, hi, hz0, hz1, hz2⟩ := info_parts Try.info39
  have Hi := Lib.hid (And.intro hi (And.intro hz0 (And.intro hz1 hz2)))
  obtain ⟨va, vc, rfl⟩ := hr.slice
  clear HP hok hr ha hL hi hz0 hz1 hz2 hS
  go_enter Try.func36, Try.ntmps36
  go_wp2_with fail
  go_at_call 79
  refine HP'.out.mono ?_
  rintro e w1 ⟨rfl, hB1⟩
  go_wp2_with fail
  go_at_call 80
  refine (HR.out _ hB1).mono ?_
  rintro e w2 ⟨v2, rfl, M, hp, hs, hr2, hB2⟩
  have he : mrgs M = R := (says_mrgs (fun p hpm => Hok.out p hpm) hp hs).uniq HS.out
  rw [he] at hr2
  have HB := Lib.hid (chain hB1 hB2)
  obtain ⟨m, hm⟩ : ∃ m, m = R.length := ⟨_, rfl⟩
  rw [← hm] at hr2
  have Hm := Lib.hid hm.symm
  clear hp hs hB1 hB2 HP' HR Hok hm he
  rcases hr2.2 with ⟨rfl, a2, c2, rfl⟩ | ⟨g, cap, rfl, h1, h2, h3, h4, h5⟩
  · have h0 : R = [] := List.eq_nil_of_length_eq_zero Hm.out
    have H0 := Lib.hid h0
    clear hr2 h0
    go_wp2_with fail
    go_loop [4, 6, 13] (fun s _ i => s = .slice none 0 0 ∧ i = .int .i64 0) (fun _ _ i => (intOf i).toNat)
    case atStart => exact ⟨rfl, rfl⟩
    case round =>
      obtain ⟨rfl, rfl⟩ := hrel
      go_wp2
      refine bodyPost_ret (v := .tuple #[.slice none 0 0, .bool true]) (by simp [results, Try.results36, go_sem]) rfl ?_
      exact ⟨_, rfl, by rw [H0.out]; exact Row.empty _ _ _ _ _ _, HB.out⟩
  · have H4 := Lib.hid h4
    clear h4 h5 hr2
    go_wp2_with fail
    go_loopw [4, 6, 13] (fun s _ i wr => ∃ k : Nat, k ≤ m ∧ i = .int .i64 (k : Int) ∧ Hid (IaRel w2 wr s (aggR (R.take k)))) (fun _ _ i _ => m - (intOf i).toNat)
    case atStart => exact ⟨0, Nat.zero_le _, rfl, Below.refl _ _, by simp [aggR, flat2, ints], .inl ⟨rfl, rfl⟩⟩
    case round =>
      obtain ⟨k, hk, rfl, hR⟩ := hrel
      obtain ⟨ua, uc, hu⟩ := own_slice hR.out.2
      subst hu
      by_cases hlt : k < m
      · obtain ⟨r, hrk⟩ : ∃ r, R[k]? = some r := ⟨R[k]'(by rw [Hm.out]; exact hlt), List.getElem?_eq_getElem _⟩
        have hb := HS.out.1.1 r (List.mem_of_getElem? hrk)
        obtain ⟨fr, tt⟩ := r
        obtain ⟨r0, r1⟩ := flat2_at R k _ hrk
        have k1 : wr.cell? ⟨g, k * 2, none⟩ = some (.int .i64 fr) := by rw [hR.out.1.cell (p := ⟨g, k * 2, none⟩) h2]; exact H4.out _ _ r0
        have k2 : wr.cell? ⟨g, k * 2 + 1, none⟩ = some (.int .i64 tt) := by rw [hR.out.1.cell (p := ⟨g, k * 2 + 1, none⟩) h2]; exact H4.out _ _ r1
        have Ht := Lib.hid (agg_take hrk)
        have hl1 := agg_len (HS.out.1.take k)
        have hl2 := agg_len (HS.out.1.take (k + 1))
        rw [Ht.out, List.length_append] at hl2
        have Hl := Lib.hid hl2
        have HC := Lib.hid (fun w => pre_any (fr, tt) w hb)
        clear r0 r1 hrk hl1 hl2 hb
        have q0 : (0 : Int) ≤ (k : Int) := by omega
        have q1 : (k : Int) < (m : Int) := by omega
        go_wp2_with (first
          | (go_at_call 81; refine (HC.out _).mono ?_; rintro e w3 ⟨g3, cap3, rfl, hc3, hb3⟩; have HY := Lib.hid (hR.out.below (unbox hb3)); have HC3 := Lib.hid hc3; clear hc3 hb3)
          | (at_builtin; refine wpList_append_own_at _ rfl _ _ 54 rfl w2.heap.size 39 i39 (.agg #[.int .i64 0, .int .i64 0]) 2 16 Try.underlying54 Hi.out.1 Hi.out.2.1 Hi.out.2.2.1 Hi.out.2.2.2 rfl (by decide) _ (aggR (R.take k)).length (ints (flat2 (aggR (R.take k)))) rfl HY.out.2 ⟨g3, 0, none⟩ (tr (fr, tt)).length cap3 (ints (flat2 (tr (fr, tt)))) rfl ?c7 ?c1 ?c2 ?c3 ?c4 ?c5 ?_))
        case c7 => rw [ints_len, flat2_len]
        case c1 =>
          intro j u hj
          obtain ⟨z, hz, rfl⟩ := ints_of hj
          rw [add_none]
          exact HC3.out j z hz
        case c2 => exact ints_one _
        case c3 => have := Hl.out; unfold maxLen; omega
        case c4 => have := Hl.out; omega
        case c5 => exact HY.out.1.size
        intro v' w4 hown hgrow _ _
        have HF := Lib.hid (HY.out.app hgrow hown)
        clear hown hgrow HY
        go_wp2_with fail
        go_roundw
        case rel => exact ⟨k + 1, by omega, by go_num, by rw [Ht.out]; exact HF.out⟩
        case measure => simp [intOf]; omega
      · have hge : ¬ ((k : Int) < (m : Int)) := by omega
        obtain rfl : k = m := by omega
        have ht : R.take k = R := List.take_of_length_le (by rw [Hm.out]; exact Nat.le_refl _)
        have hrow := hR.out.2
        rw [ht] at hrow
        have hrow := row_of_own hrow (by have := agg_len HS.out.1; omega)
        have Hrow := Lib.hid (hrow.wide (lo' := w.heap.size) (hi' := wr.heap.size) HB.out.size (Nat.le_refl _))
        have HBf := Lib.hid (chain HB.out hR.out.1)
        have Htk := Lib.hid (congrArg (fun R => (aggR R).length) ht)
        clear hrow ht
        go_wp2
        refine bodyPost_ret (v := .tuple #[.slice ua (aggR (R.take k)).length uc, .bool true]) (by simp [results, Try.results36, go_sem]) rfl ?_
        exact ⟨_, rfl, by have e := Hrow.out; rw [show (aggR (R.take k)).length = (aggR R).length from Htk.out]; exact e, HBf.out⟩

set_option maxHeartbeats 1000000 in
theorem iagg_no (lo hi n : Nat) (v : Value) (L : List Pf) (w : World) (hL : L.length = n) (hr : Row 2 w lo hi v n (flat2 L)) (hh : hi ≤ w.heap.size) (hn : n ≤ 1100000) (hno : allOk L = false) :
    Calls Try.prog 36 #[v] w fun e w' => ∃ rv, e = .returned (.tuple #[rv, .bool false]) ∧ Row 2 w' w.heap.size w'.heap.size rv 0 [] ∧ Below w.heap.size w w' := by
  have HP := prefixesOk_any lo hi n v L w hL hr hh hn
  rw [hno] at HP
  have HP' := Lib.hid HP
  obtain ⟨va, vc, rfl⟩ := hr.slice
  clear HP hr
  go_enter Try.func36, Try.ntmps36
  go_wp2_with fail
  go_at_call 79
  refine HP'.out.mono ?_
  rintro e w1 ⟨rfl, hB1⟩
  have HB := Lib.hid hB1
  clear hB1
  go_wp2
  refine bodyPost_ret (v := .tuple #[.slice none 0 0, .bool false]) (by simp [results, Try.results36, go_sem]) rfl ?_
  exact ⟨_, rfl, Row.empty _ _ _ _ _ _, HB.out⟩
end Go.Proofs.Ytpfeekdmeloakaa
