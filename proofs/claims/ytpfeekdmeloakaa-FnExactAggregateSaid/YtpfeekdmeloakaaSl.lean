/- The blocks of the marked addresses, of the specification, as a contract. -/
import Derived.Test.YtpfeekdmeloakaaSk
import Derived.Test.YtpfeekdmeloakaaIa
namespace Go.Proofs.Ytpfeekdmeloakaa
open Go.RowKit

theorem Tab.start {w w1 : World} {gm : Nat} {f : Nat → Bool} {xs : List Value} (hown : w1.ownsRow w.heap.size 94 1 (.slice (some ⟨w.heap.size, 0, none⟩) 17 17) 17 xs) (hg : w.grownBy w1 none) (hgm : gm < w.heap.size)
    (hc : ∀ a, a < 65536 → w.cell? ⟨gm, a, none⟩ = some (.bool (f a))) : Tab w (w1.setCell ⟨w.heap.size, 16, none⟩ (.slice (some ⟨gm, 0, none⟩) 65536 65536)) w.heap.size f 16 := by
  have hB : Below w.heap.size w w1 := (Below.refl _ _).grown hg (Nat.le_refl _) (fun k hk => by cases hk)
  have h0 : Tab w w1 w.heap.size f 17 := by
    refine ⟨hB, Nat.le_refl _, (hown.lt w.heap.size rfl).2, fun o => hown.frozenAt o, fun m hm => ?_, fun m h h' => by omega⟩
    have hl : m < xs.length := by rw [hown.1]; omega
    exact ⟨xs[m], by rw [hown.cellAt m (by omega)]; exact List.getElem?_eq_getElem hl⟩
  refine Tab.put (g := gm) h0 (by omega) (by omega) (by have := hB.size; omega) fun i hi => ?_
  rw [hB.cell (p := ⟨gm, i, none⟩) hgm]
  exact hc i hi

theorem IaRel.drewN {w wr : World} {v : Value} {O : List Pf} (h : IaRel w wr v O) (q : Nat) : IaRel w (wr.drewN q) v O := ⟨⟨h.1.os, h.1.tape, h.1.output, h.1.size, h.1.block⟩, h.2⟩
/-- No smaller length does. -/
def NoBl (f : Nat → Bool) (x j : Nat) : Prop := ∀ m : Nat, m < j → ¬ ((x : Int) % psz (m : Int) = 0 ∧ AllM f (x : Int) (m : Int))
theorem NoBl.step {f : Nat → Bool} {x j : Nat} (h : NoBl f x j) (hj : ¬ ((x : Int) % psz (j : Int) = 0 ∧ AllM f (x : Int) (j : Int))) : NoBl f x (j + 1) := fun m hm => by
  by_cases e : m = j
  · subst e; exact hj
  · exact h m (by omega)
theorem NoBl.lvl {f : Nat → Bool} {x j : Nat} (h : NoBl f x j) (hj : j ≤ 16) (hal : (x : Int) % psz (j : Int) = 0) (hA : AllM f (x : Int) (j : Int)) : BLvl f (x : Int) (j : Int) :=
  ⟨by omega, by omega, hal, hA, fun m m0 m1 hc => by
    obtain ⟨m', rfl⟩ := Int.eq_ofNat_of_zero_le m0
    exact h m' (by omega) hc⟩
theorem IaRel.snoc {w wr w1 : World} {v v' : Value} {O : List Pf} {x y : Int} {o : Obj} {n : Nat} (h : IaRel w wr v O) (hg : (wr.alloc o).grownBy w1 v.ownBlock) (hn : n = O.length + 1) (hown : w1.ownsRow w.heap.size 39 2 v' n (ints (flat2 O) ++ [.int .i64 x, .int .i64 y])) : IaRel w w1 v' (O ++ [(x, y)]) := by
  subst hn
  refine ⟨(h.1.alloc h.1.size o).grown hg (by have := h.1.size; simp; omega) (fun k hk => (h.2.lt k hk).1), ?_⟩
  rw [flat2_app, flat2_one, ints_app, List.length_append]
  exact hown
theorem div_row {x j : Nat} (hx : x < 65536) (hj : j ≤ 16) : x / 2 ^ (16 - j) < 2 ^ j := by
  refine Nat.div_lt_of_lt_mul ?_
  rw [← Nat.pow_add, show 16 - j + j = 16 by omega]
  exact hx

theorem rel_next {R O : List Pf} {f : Nat → Bool} {x n : Nat} {w5 wr : World} {v : Value} (hlt : x < 65536) (hS : Says f R) (hR : AggInv R (x : Int) O ∧ O.length ≤ x) (hn : BLvl f (x : Int) (n : Int)) (hF : IaRel w5 wr v (O ++ [((x : Int), (n : Int))])) :
    ∃ (y : Nat) (P : List Pf), y ≤ 65536 ∧ Value.int .i64 ((x : Int) + psz (n : Int)) = .int .i64 (y : Int) ∧ x < y ∧ Hid (IaRel w5 wr v P ∧ AggInv R (y : Int) P ∧ P.length ≤ y) := by
  have hp := psz_pos (n : Int) hn.1 hn.2.1
  have he := block_end hn.1 hn.2.1 (by omega) hn.2.2.1
  have e : (((x : Int) + psz (n : Int)).toNat : Int) = (x : Int) + psz (n : Int) := by omega
  refine ⟨((x : Int) + psz (n : Int)).toNat, O ++ [((x : Int), (n : Int))], by omega, by rw [e], by omega, hF, ?_, by simp; omega⟩
  rw [e]
  exact hR.1.step hS hlt hn

set_option maxRecDepth 100000 in
set_option maxHeartbeats 4000000 in
theorem blocks_any (gm : Nat) (f : Nat → Bool) (R : List Pf) (w : World) (hgm : gm < w.heap.size) (hc : ∀ a, a < 65536 → w.cell? ⟨gm, a, none⟩ = some (.bool (f a))) (hS : Says f R) :
    Calls Try.prog 78 #[.slice (some ⟨gm, 0, none⟩) 65536 65536] w fun e w' => ∃ rv, e = .returned rv ∧ Row 2 w' w.heap.size w'.heap.size rv (aggR R).length (flat2 (aggR R)) ∧ Below w.heap.size w w' := by
  have HC := Lib.hid hc
  have HS := Lib.hid hS
  obtain ⟨i94, hi, hz0, hz1, hz2⟩ := info_parts Try.info94
  obtain ⟨i4, ji, jz0, jz1, jz2⟩ := info_parts Try.info4
  have J := Lib.hid (And.intro ji (And.intro jz0 (And.intro jz1 jz2)))
  obtain ⟨i39, ki, kz0, kz1, kz2⟩ := info_parts Try.info39
  have K39 := Lib.hid (And.intro ki (And.intro kz0 (And.intro kz1 kz2)))
  have I := Lib.hid (And.intro hi (And.intro hz0 (And.intro hz1 hz2)))
  clear hc hS ji jz0 jz1 jz2 ki kz0 kz1 kz2 hi hz0 hz1 hz2
  go_enter Try.func78, Try.ntmps78
  go_wp2_with (at_make; refine wpList_make_full _ rfl _ _ 131 rfl w.heap.size 94 i94 (.slice none 0 0) 1 Try.underlying131 I.out.1 I.out.2.1 I.out.2.2.1 .i64 .i64 17 17 17 rfl rfl rfl rfl (by rw [I.out.2.2.2]; decide) (by unfold maxLen; decide) (Nat.le_refl _) ?_)
  intro w1 hown hgrow
  have u0 : ∃ u, w1.cell? ⟨w.heap.size, 16, none⟩ = some u := by
    refine ⟨_, by rw [hown.cellAt 16 (by omega)]; exact List.getElem?_eq_getElem (by rw [hown.1]; omega)⟩
  obtain ⟨u0, hu0⟩ := u0
  have hf0 := hown.frozenAt 16
  have HT := Lib.hid (Tab.start hown hgrow hgm HC.out)
  clear hown hgrow
  go_wp2_with fail
  clear hu0 hf0
  go_loopw [4, 5, 6, 7] (fun n _ _ _ wr => ∃ k : Nat, k ≤ 16 ∧ n = .int .i64 ((k : Int) - 1) ∧ Hid (Tab w wr w.heap.size f k)) (fun n _ _ _ _ => (intOf n + 1).toNat)
  case atStart => exact ⟨16, Nat.le_refl _, rfl, HT⟩
  case round =>
    obtain ⟨k, hk, hn, hT⟩ := hrel
    cases k with
    | succ k =>
      have hn' : u4 = .int .i64 (k : Int) := by rw [hn]; congr 1; omega
      subst hn'
      clear hn
      obtain ⟨g, hgF, hgl, hgc, hgb⟩ := hT.out.2.2.2.2.2 (k + 1) (Nat.le_refl _) hk
      obtain ⟨N, hN⟩ : ∃ N, N = 2 ^ k := ⟨_, rfl⟩
      have h2N : 2 ^ (k + 1) = 2 * N := by rw [hN, Nat.pow_succ, Nat.mul_comm]
      have hNl : N ≤ 32768 := by rw [hN]; exact Nat.pow_le_pow_right (by decide) (show k ≤ 15 by omega)
      have hN0 : 0 < N := by rw [hN]; exact Nat.two_pow_pos _
      rw [h2N] at hgc hgb
      have HN := Lib.hid hN
      have Hgb := Lib.hid hgb
      have HgF := Lib.hid hgF
      have hFl := hT.out.2.2.1
      obtain ⟨wo, hwo⟩ : ∃ wo : World, wo = wr := ⟨_, rfl⟩
      subst hwo
      clear hgb hgF hN
      have e1 : IntKind.i64.wrap ((k : Int) + 1) = (k : Int) + 1 := IntWalk.i64_in _ (by omega)
      have e2 : (2 * (N : Int)).tdiv 2 = (N : Int) := by rw [Int.tdiv_eq_ediv_of_nonneg (by omega)]; omega
      have e3 : IntKind.i64.wrap (N : Int) = (N : Int) := IntWalk.i64_in _ (by omega)
      have q0 : (0 : Int) ≤ (k : Int) := by omega
      have q1 : (k : Int) + 1 < 17 := by omega
      have q2 : (0 : Int) ≤ (k : Int) + 1 := by omega
      have q3 : ((k : Int) + 1).toNat = k + 1 := by omega
      go_wp2_with (at_make; refine wpList_make_full _ rfl _ _ 94 rfl wo.heap.size 4 i4 (.bool false) 1 Try.underlying94 J.out.1 J.out.2.1 J.out.2.2.1 .i64 .i64 _ _ N rfl rfl rfl rfl ?b2 (by unfold maxLen; omega) (Nat.le_refl _) ?_)
      case b2 => rw [J.out.2.2.2]; omega
      intro w3 hown3 hgrow3
      have HF := Lib.hid (FillB.start (F := fun j => fullB f (16 - k) j) hown3 hgrow3)
      clear hown3 hgrow3
      go_wp2_with fail
      go_loopw [7] (fun i wi => ∃ j : Nat, j ≤ N ∧ i = .int .i64 (j : Int) ∧ Hid (FillB wo wi wo.heap.size N j (fun j => fullB f (16 - k) j))) (fun i _ => N - (intOf i).toNat)
      case atStart => exact ⟨0, Nat.zero_le _, rfl, HF⟩
      case round =>
        obtain ⟨j, hj, rfl, hR⟩ := hrel
        by_cases hlt : j < N
        · have c0 : wr.cell? ⟨g, 2 * j, none⟩ = some (.bool (fullB f (16 - (k + 1)) (2 * j))) := by rw [hR.out.1.cell (p := ⟨g, 2 * j, none⟩) hgl]; exact Hgb.out _ (by omega)
          have c1 : wr.cell? ⟨g, 2 * j + 1, none⟩ = some (.bool (fullB f (16 - (k + 1)) (2 * j + 1))) := by rw [hR.out.1.cell (p := ⟨g, 2 * j + 1, none⟩) hgl]; exact Hgb.out _ (by omega)
          obtain ⟨u, hu⟩ := hR.out.2.2.2.2.2 j hlt
          have hfr := hR.out.2.2.2.1 j
          have hfb : Hid (fullB f (16 - k) j = (fullB f (16 - (k + 1)) (2 * j) && fullB f (16 - (k + 1)) (2 * j + 1))) := by
            show fullB f (16 - k) j = _
            rw [show 16 - k = (16 - (k + 1)) + 1 by omega]; rfl
          generalize fullB f (16 - (k + 1)) (2 * j) = b0 at c0 hfb
          generalize fullB f (16 - (k + 1)) (2 * j + 1) = b1 at c1 hfb
          have p0 : (0 : Int) ≤ (j : Int) := by omega
          have p1 : (j : Int) < (N : Int) := by omega
          have p2 : (0 : Int) ≤ 2 * (j : Int) := by omega
          have p3 : 2 * (j : Int) < 2 * (N : Int) := by omega
          have p4 : 2 * (j : Int) + 1 < 2 * (N : Int) := by omega
          have p5 : (0 : Int) ≤ 2 * (j : Int) + 1 := by omega
          have p6 : (2 * (j : Int)).toNat = 2 * j := by omega
          have p7 : (2 * (j : Int) + 1).toNat = 2 * j + 1 := by omega
          have f1 : IntKind.i64.wrap (2 * (j : Int)) = 2 * (j : Int) := IntWalk.i64_in _ (by omega)
          have f2 : IntKind.i64.wrap (2 * (j : Int) + 1) = 2 * (j : Int) + 1 := IntWalk.i64_in _ (by omega)
          cases b0 <;> cases b1 <;>
          · go_wp2_with fail
            go_roundw
            case rel => exact ⟨j + 1, by omega, by go_num, (hR.out.one hlt (by rw [hfb.out]; rfl))⟩
            case measure => simp [intOf]; omega
        · have hge : ¬ ((j : Int) < (N : Int)) := by omega
          obtain rfl : j = N := by omega
          obtain ⟨u, hu⟩ := hT.out.2.2.2.2.1 k (by omega)
          have hu' : ∃ u, wr.cell? ⟨w.heap.size, k, none⟩ = some u := ⟨u, by rw [hR.out.1.cell (p := ⟨w.heap.size, k, none⟩) hFl]; exact hu⟩
          obtain ⟨u', hu'⟩ := hu'
          have hfr : wr.frozen? ⟨w.heap.size, k, none⟩ = false := by rw [hR.out.1.frozen (p := ⟨w.heap.size, k, none⟩) hFl]; exact hT.out.2.2.2.1 k
          have p9 : (k : Int) < 17 := by omega
          have HT' := Lib.hid (Tab.put (g := wo.heap.size) (hT.out.below hR.out.1) (by omega) (by omega) hR.out.2.2.1 (fun i hi => hR.out.2.2.2.2.1 i (by rw [HN.out]; exact hi)))
          rw [← HN.out] at HT'
          clear hu
          have e9 : IntKind.i64.wrap ((k : Int) - 1) = (k : Int) - 1 := IntWalk.i64_in _ (by omega)
          go_wp2_with fail
          go_roundw
          case rel => exact ⟨k, by omega, rfl, HT'⟩
          case measure => simp [intOf]
    | zero =>
      have hn' : u4 = .int .i64 (-1) := hn
      subst hn'
      clear hn
      obtain ⟨w5, hw5⟩ : ∃ w5 : World, w5 = wr := ⟨_, rfl⟩
      subst hw5
      have hFl := hT.out.2.2.1
      go_wp2_with fail
      go_loopw [8, 9, 10] (fun o a _ wr => ∃ (x : Nat) (O : List Pf), x ≤ 65536 ∧ a = .int .i64 (x : Int) ∧ Hid (IaRel w5 wr o O ∧ AggInv R (x : Int) O ∧ O.length ≤ x)) (fun _ a _ _ => 65536 - (intOf a).toNat)
      case atStart => exact ⟨0, [], by omega, rfl, ⟨(Below.refl _ _).alloc (Nat.le_refl _) _, own_empty w5 39 2⟩, AggInv.start HS.out.1, Nat.le_refl _⟩
      case round =>
        obtain ⟨x, O, hx, rfl, hR⟩ := hrel
        obtain ⟨oa, oc, hu⟩ := own_slice hR.out.1.2
        subst hu
        by_cases hlt : x < 65536
        · have q0 : (0 : Int) ≤ (x : Int) := by omega
          have q1 : (x : Int) < 65536 := by omega
          go_wp2_with fail
          go_loopw [10] (fun n wi => ∃ j : Nat, j ≤ 16 ∧ n = .int .i64 (j : Int) ∧ Hid (IaRel w5 wi (.slice oa O.length oc) O ∧ NoBl f x j)) (fun n _ => 16 - (intOf n).toNat)
          case atStart => exact ⟨0, by omega, rfl, hR.out.1, fun m hm => absurd hm (Nat.not_lt_zero _)⟩
          case round =>
            obtain ⟨j, hj, rfl, hI⟩ := hrel
            have n0 : (0 : Int) ≤ (j : Int) := by omega
            have n1 : (j : Int) ≤ 16 := by omega
            have n2 : (j : Int) < 17 := by omega
            have hp := psz_pos (j : Int) n0 n1
            have hz : ¬ (psz (j : Int) = 0) := by omega
            have ht : (x : Int).tmod (psz (j : Int)) = (x : Int) % psz (j : Int) := Int.tmod_eq_emod_of_nonneg q0
            by_cases hal : (x : Int) % psz (j : Int) = 0
            · obtain ⟨g, hgF, hgl, hgc, hgb⟩ := hT.out.2.2.2.2.2 j (Nat.zero_le _) hj
              obtain ⟨q, hq⟩ : ∃ q, q = x / 2 ^ (16 - j) := ⟨_, rfl⟩
              have hqd : (x : Int).tdiv (psz (j : Int)) = (q : Int) := by
                rw [Int.tdiv_eq_ediv_of_nonneg q0, pw j hj, hq]; exact_mod_cast rfl
              have hql : q < 2 ^ j := by rw [hq]; exact div_row hlt hj
              have k1 : wr.cell? ⟨w.heap.size, j, none⟩ = some (.slice (some ⟨g, 0, none⟩) (2 ^ j) (2 ^ j)) := by rw [hI.out.1.1.cell (p := ⟨w.heap.size, j, none⟩) hFl]; exact hgc
              have k2 : wr.cell? ⟨g, q, none⟩ = some (.bool (fullB f (16 - j) q)) := by rw [hI.out.1.1.cell (p := ⟨g, q, none⟩) hgl]; exact hgb q hql
              have HA := Lib.hid (allM_full f x j hj hal)
              rw [← hq] at HA
              have HQ := Lib.hid hq
              obtain ⟨E, hE⟩ : ∃ E, E = 2 ^ j := ⟨_, rfl⟩
              rw [← hE] at k1 hql
              have r0 : (0 : Int) ≤ (q : Int) := by omega
              have r1 : (q : Int) < (E : Int) := by omega
              have hb : ((x : Int) % psz (j : Int) != 0) = false := by simp [hal]
              have Hal := Lib.hid hal
              have e5 : IntKind.i64.wrap (q : Int) = (q : Int) := IntWalk.i64_in _ (by have := Nat.div_le_self x (2 ^ (16 - j)); omega)
              clear hgF hgl hgc hgb hq hE hal
              by_cases hf : fullB f (16 - j) q = true
              · rw [hf] at k2
                have Hlv := Lib.hid (hI.out.2.lvl hj Hal.out (HA.out.2 hf))
                clear hf HA
                by_cases h16 : (j : Int) < 16
                · have d16 : decide ((j : Int) < 16) = true := decide_eq_true h16
                  go_wp2_with fail
                  go_quiet (first | ((go_at_call 100; exact quiet_same (spsize_any _ _ n0 n1))))
                  have X1 : (wr.drewN nq).cell? ⟨w.heap.size, j, none⟩ = some (.slice (some ⟨g, 0, none⟩) E E) := k1
                  have X2 : (wr.drewN nq).cell? ⟨g, q, none⟩ = some (.bool true) := k2
                  have HX : Hid (IaRel w5 (wr.drewN nq) (.slice oa O.length oc) O) := hI.out.1.drewN nq
                  clear k1 k2 hI
                  generalize wr.drewN nq = wx at *
                  go_wp2_with fail
                  go_quiet (first | ((go_at_call 100; exact quiet_same (spsize_any _ _ n0 n1))))
                  have HZ : Hid (IaRel w5 (wx.drewN nq) (.slice oa O.length oc) O) := HX.out.drewN nq
                  clear X1 X2 HX
                  generalize wx.drewN nq = wz at *
                  have Hll := Lib.hid hR.out.2.2
                  have e6 : IntKind.i64.wrap ((x : Int) + psz (j : Int)) = (x : Int) + psz (j : Int) := IntWalk.i64_in _ (by have := psz_le (j : Int) n0 n1; omega)
                  go_wp2_with (first
                    | (at_builtin; refine wpList_append_lies _ rfl _ _ 54 rfl w5.heap.size 39 i39 (.agg #[.int .i64 0, .int .i64 0]) 2 16 Try.underlying54 K39.out.1 K39.out.2.1 K39.out.2.2.1 K39.out.2.2.2 rfl (by decide) _ O.length (ints (flat2 O)) rfl (HZ.out.2.alloc _) ⟨wz.heap.size, 0, none⟩ 1 1 [.int .i64 (x : Int), .int .i64 (j : Int)] rfl rfl (fun i u hi => cell_two_new wz (.int .i64 (x : Int)) (.int .i64 (j : Int)) 39 i u hi) (two_one _ _) (by decide) ?c3 ?c4 ?c5 _ rfl ?_)
                    | (go_at_call 100; refine (spsize_any _ _ n0 n1).mono ?_; rintro e w9 ⟨rfl, rfl⟩))
                  case c3 => have := Hll.out; unfold maxLen; omega
                  case c4 => have := Hll.out; omega
                  case c5 => have := HZ.out.1.size; simp; omega
                  intro g6 cap6 w6 hown6 hgrow6 _ _
                  have HF := Lib.hid (HZ.out.snoc hgrow6 rfl hown6)
                  clear hown6 hgrow6
                  go_wp2_with (go_at_call 100; refine (spsize_any _ _ n0 n1).mono ?_; rintro e w9 ⟨rfl, rfl⟩)
                  go_roundw
                  case rel =>
                    obtain ⟨y, P, y0, y1, y2, y3⟩ := rel_next hlt HS.out hR.out.2 Hlv.out HF.out
                    exact ⟨y, P, y0, y1, y3⟩
                  case measure => simp [intOf]; omega
                · have d16 : decide ((j : Int) < 16) = false := decide_eq_false h16
                  go_wp2_with fail
                  go_quiet (fail)
                  have X1 : (wr.drewN nq).cell? ⟨w.heap.size, j, none⟩ = some (.slice (some ⟨g, 0, none⟩) E E) := k1
                  have X2 : (wr.drewN nq).cell? ⟨g, q, none⟩ = some (.bool true) := k2
                  have HX : Hid (IaRel w5 (wr.drewN nq) (.slice oa O.length oc) O) := hI.out.1.drewN nq
                  clear k1 k2 hI
                  generalize wr.drewN nq = wx at *
                  go_wp2_with fail
                  go_quiet (first | ((go_at_call 100; exact quiet_same (spsize_any _ _ n0 n1))))
                  have HZ : Hid (IaRel w5 (wx.drewN nq) (.slice oa O.length oc) O) := HX.out.drewN nq
                  clear X1 X2 HX
                  generalize wx.drewN nq = wz at *
                  have Hll := Lib.hid hR.out.2.2
                  have e6 : IntKind.i64.wrap ((x : Int) + psz (j : Int)) = (x : Int) + psz (j : Int) := IntWalk.i64_in _ (by have := psz_le (j : Int) n0 n1; omega)
                  go_wp2_with (first
                    | (at_builtin; refine wpList_append_lies _ rfl _ _ 54 rfl w5.heap.size 39 i39 (.agg #[.int .i64 0, .int .i64 0]) 2 16 Try.underlying54 K39.out.1 K39.out.2.1 K39.out.2.2.1 K39.out.2.2.2 rfl (by decide) _ O.length (ints (flat2 O)) rfl (HZ.out.2.alloc _) ⟨wz.heap.size, 0, none⟩ 1 1 [.int .i64 (x : Int), .int .i64 (j : Int)] rfl rfl (fun i u hi => cell_two_new wz (.int .i64 (x : Int)) (.int .i64 (j : Int)) 39 i u hi) (two_one _ _) (by decide) ?c3 ?c4 ?c5 _ rfl ?_)
                    | (go_at_call 100; refine (spsize_any _ _ n0 n1).mono ?_; rintro e w9 ⟨rfl, rfl⟩))
                  case c3 => have := Hll.out; unfold maxLen; omega
                  case c4 => have := Hll.out; omega
                  case c5 => have := HZ.out.1.size; simp; omega
                  intro g6 cap6 w6 hown6 hgrow6 _ _
                  have HF := Lib.hid (HZ.out.snoc hgrow6 rfl hown6)
                  clear hown6 hgrow6
                  go_wp2_with (go_at_call 100; refine (spsize_any _ _ n0 n1).mono ?_; rintro e w9 ⟨rfl, rfl⟩)
                  go_roundw
                  case rel =>
                    obtain ⟨y, P, y0, y1, y2, y3⟩ := rel_next hlt HS.out hR.out.2 Hlv.out HF.out
                    exact ⟨y, P, y0, y1, y3⟩
                  case measure => simp [intOf]; omega
              · rw [Bool.not_eq_true] at hf
                rw [hf] at k2
                have hno : ¬ ((x : Int) % psz (j : Int) = 0 ∧ AllM f (x : Int) (j : Int)) := fun hc => by rw [HA.out.1 hc.2] at hf; cases hf
                have Hno := Lib.hid (hI.out.2.step hno)
                have Hf := Lib.hid hf
                clear hf HA hno
                by_cases h16 : (j : Int) < 16
                · have d16 : decide ((j : Int) < 16) = true := decide_eq_true h16
                  have e7 : IntKind.i64.wrap ((j : Int) + 1) = (j : Int) + 1 := IntWalk.i64_in _ (by omega)
                  go_wp2_with fail
                  go_quiet (first | ((go_at_call 100; exact quiet_same (spsize_any _ _ n0 n1))))
                  have HX : Hid (IaRel w5 (wr.drewN nq) (.slice oa O.length oc) O) := hI.out.1.drewN nq
                  clear k1 k2 hI
                  generalize wr.drewN nq = wx at *
                  go_wp2_with fail
                  go_roundw
                  case rel => exact ⟨j + 1, by omega, by go_num, HX.out, Hno.out⟩
                  case measure => simp [intOf]; omega
                · have d16 : decide ((j : Int) < 16) = false := decide_eq_false h16
                  have hfx : f x = false := by
                    have h1 := Hf.out
                    rw [show 16 - j = 0 by omega] at h1
                    have h2 : q = x := by rw [HQ.out, show 16 - j = 0 by omega]; simp
                    rw [h2] at h1
                    exact h1
                  have Hfx := Lib.hid hfx
                  have e7 : IntKind.i64.wrap ((x : Int) + 1) = (x : Int) + 1 := IntWalk.i64_in _ (by omega)
                  clear hfx
                  go_wp2_with fail
                  go_quiet (fail)
                  have X1 : (wr.drewN nq).cell? ⟨w.heap.size, j, none⟩ = some (.slice (some ⟨g, 0, none⟩) E E) := k1
                  have X2 : (wr.drewN nq).cell? ⟨g, q, none⟩ = some (.bool false) := k2
                  have HX : Hid (IaRel w5 (wr.drewN nq) (.slice oa O.length oc) O) := hI.out.1.drewN nq
                  clear k1 k2 hI
                  generalize wr.drewN nq = wx at *
                  go_wp2_with fail
                  go_quiet (first | ((go_at_call 100; exact quiet_same (spsize_any _ _ n0 n1))))
                  have HZ : Hid (IaRel w5 (wx.drewN nq) (.slice oa O.length oc) O) := HX.out.drewN nq
                  clear X1 X2 HX
                  generalize wx.drewN nq = wz at *
                  go_wp2_with fail
                  go_roundw
                  case rel => exact ⟨x + 1, O, by omega, by go_num, HZ.out, by have := hR.out.2.1.skip HS.out hlt Hfx.out; exact_mod_cast this, by have := hR.out.2.2; omega⟩
                  case measure => simp [intOf]; omega
            · have h16 : (j : Int) < 16 := by
                rcases Int.lt_or_le (j : Int) 16 with h | h
                · exact h
                · exfalso
                  apply hal
                  rw [show (j : Int) = 16 by omega, show psz 16 = 1 by decide]
                  exact Int.emod_one _
              have d16 : decide ((j : Int) < 16) = true := decide_eq_true h16
              have hb : ((x : Int) % psz (j : Int) != 0) = true := by simp [hal]
              have Hno := Lib.hid (hI.out.2.step fun hc => hal hc.1)
              have e7 : IntKind.i64.wrap ((j : Int) + 1) = (j : Int) + 1 := IntWalk.i64_in _ (by omega)
              clear hal
              go_wp2_with fail
              go_quiet (first | ((go_at_call 100; exact quiet_same (spsize_any _ _ n0 n1))))
              have HX : Hid (IaRel w5 (wr.drewN nq) (.slice oa O.length oc) O) := hI.out.1.drewN nq
              clear hI
              generalize wr.drewN nq = wx at *
              go_wp2_with fail
              go_roundw
              case rel => exact ⟨j + 1, by omega, by go_num, HX.out, Hno.out⟩
              case measure => simp [intOf]; omega
        · have hge : ¬ ((x : Int) < 65536) := by omega
          have he := hR.out.2.1.end_ HS.out (by omega)
          have hrow := row_of_own hR.out.1.2 (by have := hR.out.2.2; omega)
          rw [he] at hrow
          have hl : O.length = (aggR R).length := by rw [he]
          have hBw := hT.out.1
          have Hrow := Lib.hid (hrow.wide (lo' := w.heap.size) (hi' := wr.heap.size) hBw.size (Nat.le_refl _))
          have HBf := Lib.hid (chain hBw hR.out.1.1)
          have Hl := Lib.hid hl
          clear hrow he hl
          go_wp2
          go_ret
          exact ⟨_, rfl, by have e := Hrow.out; rw [Hl.out]; exact e, HBf.out⟩
end Go.Proofs.Ytpfeekdmeloakaa
