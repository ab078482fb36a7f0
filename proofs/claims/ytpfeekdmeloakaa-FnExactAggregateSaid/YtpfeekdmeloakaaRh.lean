/- The ranges of a list of prefixes, of the program, as a contract on rows: the walk. -/
import Derived.Test.YtpfeekdmeloakaaRg
namespace Go.Proofs.Ytpfeekdmeloakaa
open Go.RowKit

set_option maxRecDepth 100000 in
set_option maxHeartbeats 4000000 in
theorem ranges_some (lo hi n : Nat) (v : Value) (L : List Pf) (w : World) (hL : L.length = n) (hn0 : 0 < n) (hr : Row 2 w lo hi v n (flat2 L)) (hh : hi ≤ w.heap.size) (hn : n ≤ 300) (hok : ∀ p ∈ L, pokB p.1 p.2 = true) :
    Calls Try.prog 80 #[v] w fun e w' => ∃ v', e = .returned v' ∧ ∃ M : List Pf, L.Perm M ∧ M.Pairwise (fun p q => p.1 ≤ q.1) ∧ Row 2 w' w.heap.size w'.heap.size v' (mrgs M).length (flat2 (mrgs M)) ∧ Below w.heap.size w w' := by
  have HC := Lib.hid (clone_any lo hi n v (flat2 L) w hr hh hn)
  obtain ⟨va, vc, rfl⟩ := hr.slice
  have HL := Lib.hid hL
  have Hok := Lib.hid hok
  clear hL hok hr
  obtain ⟨i102, hi, hz0, hz1, hz2⟩ := info_parts Try.info102
  have Hi := Lib.hid (And.intro hi (And.intro hz0 (And.intro hz1 hz2)))
  clear hi hz0 hz1 hz2
  go_enter Try.func80, Try.ntmps80
  go_wp2_with fail
  go_at_call 112
  refine HC.out.mono ?_
  rintro e w1 ⟨v1, rfl, hr1, hB1⟩
  have HS := Lib.hid (sortP_any _ _ n v1 L w1 HL.out hn0 hr1 (Nat.le_refl _))
  obtain ⟨a1, c1, rfl⟩ := hr1.slice
  have HB1 := Lib.hid hB1
  clear HC hr1 hB1
  go_wp2_with fail
  go_at_call 113
  refine HS.out.mono ?_
  rintro e w2 ⟨rfl, M, hp, hs, hr2, hT⟩
  have hBw : Below w.heap.size w w2 := HB1.out.trans (hT.below (Nat.le_refl _) HB1.out.size)
  have hsz2 := hT.size
  rcases hr2.2 with ⟨h0, _⟩ | ⟨g, cap, hv, h1, h2, h3, h4, h5⟩
  · omega
  rw [hv]
  have hML : M.length = n := by rw [← hp.length_eq]; exact HL.out
  have Hp := Lib.hid (And.intro hp hs)
  have Hok2 := Lib.hid (show ∀ p ∈ M, pokB p.1 p.2 = true from fun p hpm => Hok.out p (hp.mem_iff.2 hpm))
  have H4 := Lib.hid h4
  have HML := Lib.hid hML
  have HBw := Lib.hid hBw
  have hg2 : g < w2.heap.size := by omega
  clear hp hs hr2 hT h4 h5 hML hBw HS hv
  go_wp2_with fail
  go_loopw [4, 6, 7, 14] (fun v _ _ i wr => ∃ k : Nat, k ≤ n ∧ i = .int .i64 (k : Int) ∧ Hid (RgRel w2 wr v (mrgs (M.take k)))) (fun _ _ _ i _ => n - (intOf i).toNat)
  case atStart => exact ⟨0, Nat.zero_le _, rfl, RgRel.start w2⟩
  case round =>
    obtain ⟨k, hk, rfl, hR⟩ := hrel
    by_cases hlt : k < n
    · obtain ⟨p, hpk⟩ : ∃ p, M[k]? = some p := ⟨M[k]'(by rw [HML.out]; exact hlt), List.getElem?_eq_getElem _⟩
      obtain ⟨a, b⟩ := p
      obtain ⟨r0, r1⟩ := flat2_at M k _ hpk
      have k1 : wr.cell? ⟨g, k * 2, none⟩ = some (.int .i64 a) := by rw [hR.out.1.cell (p := ⟨g, k * 2, none⟩) hg2]; exact H4.out _ _ r0
      have k2 : wr.cell? ⟨g, k * 2 + 1, none⟩ = some (.int .i64 b) := by rw [hR.out.1.cell (p := ⟨g, k * 2 + 1, none⟩) hg2]; exact H4.out _ _ r1
      obtain ⟨p0, p1, p2, p3, p4⟩ := pok_in (Hok2.out (a, b) (List.mem_of_getElem? hpk))
      have Htake := Lib.hid (take_snoc hpk)
      have hl := mrgs_len (M.take k)
      rw [List.length_take] at hl
      have Hl : Hid ((mrgs (M.take k)).length ≤ k) := Nat.le_trans hl (Nat.min_le_left _ _)
      clear r0 r1 hpk hl
      have q0 : (0 : Int) ≤ (k : Int) := by omega
      have q1 : (k : Int) < (n : Int) := by omega
      rcases List.eq_nil_or_concat (mrgs (M.take k)) with hnil | ⟨R, r, hcon⟩
      · have Hnil := Lib.hid hnil
        rw [hnil] at hR
        obtain ⟨ua, uc, hu⟩ := own_slice hR.out.2
        subst hu
        clear hnil
        go_wp2_with fail
        go_quiet (fail)
        go_wp2_with fail
        have X0 : ((wr.alloc (.cells #[.int .i64 a, .int .i64 b] 39)).drewN nq).cell? ⟨wr.heap.size, 0, none⟩ = some (.int .i64 a) := by simp [go_sem]
        have X1 : ((wr.alloc (.cells #[.int .i64 a, .int .i64 b] 39)).drewN nq).cell? ⟨wr.heap.size, 1, none⟩ = some (.int .i64 b) := by simp [go_sem]
        have X2 : wr.heap.size < ((wr.alloc (.cells #[.int .i64 a, .int .i64 b] 39)).drewN nq).heap.size := by simp
        have HX : Hid (RgRel w2 ((wr.alloc (.cells #[.int .i64 a, .int .i64 b] 39)).drewN nq) (.slice ua 0 uc) []) := (hR.out.below ((Below.refl _ _).alloc (Nat.le_refl _) _)).drewN nq
        generalize (wr.alloc (.cells #[.int .i64 a, .int .i64 b] 39)).drewN nq = wx at *
        generalize wr.heap.size = B at *
        clear hR
        go_region_law (first
          | (refine step_append_lies _ rfl _ _ 99 rfl w2.heap.size 102 i102 (.agg #[.int .i64 0, .int .i64 0]) 2 16 Try.underlying99 Hi.out.1 Hi.out.2.1 Hi.out.2.2.1 Hi.out.2.2.2 rfl (by decide) _ 0 (ints (flat2 [])) rfl (HY.out.2.alloc _) ⟨w3.heap.size, 0, none⟩ 1 1 [.int .i64 a, .int .i64 (a + psz b - 1)] rfl rfl (fun j u hj => cell_two_new w3 (.int .i64 a) (.int .i64 (a + psz b - 1)) 102 j u hj) (two_one _ _) (by decide) (by unfold maxLen; omega) (by omega) (by have := HY.out.1.size; simp; omega) _ rfl ?_; intro g3 cap3 w4 hown4 hgrow4 hat4 hlt4)
          | (go_simp; go_at_call 109; refine (last_any a b _ p3 p4 p0 (by omega)).mono ?_; rintro e w3 ⟨rfl, hb3'⟩; have hb3 := undrew hb3'; clear hb3'; have Y0 : w3.cell? ⟨B, 0, none⟩ = some (.int .i64 a) := (hb3.cell (p := ⟨B, 0, none⟩) X2).trans X0; have HY : Hid (RgRel w2 w3 (.slice ua 0 uc) []) := HX.out.below hb3; clear hb3))
        all_goals
          have HF := Lib.hid (HY.out.app hgrow4 rfl hown4)
          clear hown4 hgrow4 hat4 hlt4 HY
          go_wp2_with fail
          go_roundw
          case rel => exact ⟨k + 1, by omega, by go_num, by rw [Htake.out, mrgs_snoc, Hnil.out, mrg_nil]; exact HF.out⟩
          case measure => simp [intOf]; omega
      · rw [List.concat_eq_append] at hcon
        have Hcon := Lib.hid hcon
        rw [hcon] at hR
        obtain ⟨g', cap', hu, b0, b1, f0, f1, f4⟩ := hR.out.form
        subst hu
        obtain ⟨rf, rt⟩ := r
        have hin : 0 ≤ rt ∧ rt ≤ 65535 := by
          have hi := (mrgs_inv (M.take k) (fun p hp => Hok2.out p (List.mem_of_mem_take hp)) (Hp.out.2.sublist (List.take_sublist _ _))).1.1 (rf, rt) (by rw [Hcon.out]; simp)
          simp only at hi
          omega
        obtain ⟨m, hm⟩ : ∃ m, m = R.length := ⟨_, rfl⟩
        have hmk : m + 1 ≤ k := by have := Hl.out; rw [Hcon.out] at this; simp at this; omega
        rw [← hm] at f0 f1
        have Hm := Lib.hid hm
        have e0 : IntKind.i64.wrap (m : Int) = (m : Int) := IntWalk.i64_in _ (by omega)
        have e1 : IntKind.i64.wrap (rt + 1) = rt + 1 := IntWalk.i64_in _ (by omega)
        have g0 : decide (0 ≤ (m : Int)) = true := decide_eq_true (by omega)
        have g1 : (0 : Int) ≤ (m : Int) := by omega
        have g2 : (m : Int) < (m : Int) + 1 := by omega
        have HR : Hid (RgRel w2 wr (.slice (some ⟨g', 0, none⟩) (m + 1) cap') (R ++ [(rf, rt)])) := by rw [hm]; exact hR.out
        rw [← hm]
        have Hb := Lib.hid (And.intro b0 b1)
        clear hm hR hcon
        by_cases hle : a ≤ rt + 1
        · have hd : decide (a ≤ rt + 1) = true := decide_eq_true hle
          have Hle := Lib.hid hle
          clear hle
          go_wp2_with fail
          go_quiet (fail)
          go_wp2_with fail
          have X0 : ((wr.alloc (.cells #[.int .i64 a, .int .i64 b] 39)).drewN nq).cell? ⟨wr.heap.size, 0, none⟩ = some (.int .i64 a) := by simp [go_sem]
          have X1 : ((wr.alloc (.cells #[.int .i64 a, .int .i64 b] 39)).drewN nq).cell? ⟨wr.heap.size, 1, none⟩ = some (.int .i64 b) := by simp [go_sem]
          have X2 : wr.heap.size < ((wr.alloc (.cells #[.int .i64 a, .int .i64 b] 39)).drewN nq).heap.size := by simp
          have X3 : g' < ((wr.alloc (.cells #[.int .i64 a, .int .i64 b] 39)).drewN nq).heap.size := by have := Hb.out.2; simp; omega
          have X4 : ((wr.alloc (.cells #[.int .i64 a, .int .i64 b] 39)).drewN nq).cell? ⟨g', m * 2 + 1, none⟩ = some (.int .i64 rt) := (old_box Hb.out.2).trans f1
          have X5 : ((wr.alloc (.cells #[.int .i64 a, .int .i64 b] 39)).drewN nq).frozen? ⟨g', m * 2 + 1, none⟩ = false := by rw [← f4 (m * 2 + 1)]; exact ((Below.refl _ _).alloc (Nat.le_refl _) _).frozen (p := ⟨g', m * 2 + 1, none⟩) Hb.out.2
          have HX : Hid (RgRel w2 ((wr.alloc (.cells #[.int .i64 a, .int .i64 b] 39)).drewN nq) (.slice (some ⟨g', 0, none⟩) (m + 1) cap') (R ++ [(rf, rt)])) := (HR.out.below ((Below.refl _ _).alloc (Nat.le_refl _) _)).drewN nq
          clear f0 f1 f4
          generalize (wr.alloc (.cells #[.int .i64 a, .int .i64 b] 39)).drewN nq = wx at *
          generalize wr.heap.size = B at *
          go_region_law ((go_simp; go_at_call 109; refine (last_any a b _ p3 p4 p0 (by omega)).mono ?_; rintro e w3 ⟨rfl, hb3'⟩; have hb3 := undrew hb3'; clear hb3'; have Y0 : w3.cell? ⟨B, 0, none⟩ = some (.int .i64 a) := (hb3.cell (p := ⟨B, 0, none⟩) X2).trans X0; have Y4 : w3.cell? ⟨g', m * 2 + 1, none⟩ = some (.int .i64 rt) := (hb3.cell (p := ⟨g', m * 2 + 1, none⟩) X3).trans X4; have Y5 : w3.frozen? ⟨g', m * 2 + 1, none⟩ = false := (hb3.frozen (p := ⟨g', m * 2 + 1, none⟩) X3).trans X5; have HY : Hid (RgRel w2 w3 (.slice (some ⟨g', 0, none⟩) (m + 1) cap') (R ++ [(rf, rt)])) := HX.out.below hb3; clear hb3))
          all_goals
            have HF := Lib.hid (HY.out.putAt Hm.out (max rt (a + psz b - 1)))
            clear HY
            go_wp2_with fail
            go_roundw
            case rel => exact ⟨k + 1, by omega, by go_num, by rw [Htake.out, mrgs_snoc, Hcon.out, mrg_last, if_pos (by have := Hle.out; simp only; omega)]; exact HF.out⟩
            case measure => simp [intOf]; omega
        · have hd : decide (a ≤ rt + 1) = false := decide_eq_false hle
          have Hle := Lib.hid hle
          clear hle
          go_wp2_with fail
          go_quiet (fail)
          go_wp2_with fail
          have X0 : ((wr.alloc (.cells #[.int .i64 a, .int .i64 b] 39)).drewN nq).cell? ⟨wr.heap.size, 0, none⟩ = some (.int .i64 a) := by simp [go_sem]
          have X1 : ((wr.alloc (.cells #[.int .i64 a, .int .i64 b] 39)).drewN nq).cell? ⟨wr.heap.size, 1, none⟩ = some (.int .i64 b) := by simp [go_sem]
          have X2 : wr.heap.size < ((wr.alloc (.cells #[.int .i64 a, .int .i64 b] 39)).drewN nq).heap.size := by simp
          have X3 : g' < ((wr.alloc (.cells #[.int .i64 a, .int .i64 b] 39)).drewN nq).heap.size := by have := Hb.out.2; simp; omega
          have X4 : ((wr.alloc (.cells #[.int .i64 a, .int .i64 b] 39)).drewN nq).cell? ⟨g', m * 2 + 1, none⟩ = some (.int .i64 rt) := (old_box Hb.out.2).trans f1
          have X5 : ((wr.alloc (.cells #[.int .i64 a, .int .i64 b] 39)).drewN nq).frozen? ⟨g', m * 2 + 1, none⟩ = false := by rw [← f4 (m * 2 + 1)]; exact ((Below.refl _ _).alloc (Nat.le_refl _) _).frozen (p := ⟨g', m * 2 + 1, none⟩) Hb.out.2
          have HX : Hid (RgRel w2 ((wr.alloc (.cells #[.int .i64 a, .int .i64 b] 39)).drewN nq) (.slice (some ⟨g', 0, none⟩) (m + 1) cap') (R ++ [(rf, rt)])) := (HR.out.below ((Below.refl _ _).alloc (Nat.le_refl _) _)).drewN nq
          clear f0 f1 f4
          generalize (wr.alloc (.cells #[.int .i64 a, .int .i64 b] 39)).drewN nq = wx at *
          generalize wr.heap.size = B at *
          go_region_law (first
            | (refine step_append_lies _ rfl _ _ 99 rfl w2.heap.size 102 i102 (.agg #[.int .i64 0, .int .i64 0]) 2 16 Try.underlying99 Hi.out.1 Hi.out.2.1 Hi.out.2.2.1 Hi.out.2.2.2 rfl (by decide) _ (m + 1) (ints (flat2 (R ++ [(rf, rt)]))) rfl ((HY.out.own (by rw [Hm.out]; simp)).alloc _) ⟨w3.heap.size, 0, none⟩ 1 1 [.int .i64 a, .int .i64 (a + psz b - 1)] rfl rfl (fun j u hj => cell_two_new w3 (.int .i64 a) (.int .i64 (a + psz b - 1)) 102 j u hj) (two_one _ _) (by decide) (by unfold maxLen; omega) (by omega) (by have := HY.out.1.size; simp; omega) _ rfl ?_; intro g3 cap3 w4 hown4 hgrow4 hat4 hlt4)
            | (go_simp; go_at_call 109; refine (last_any a b _ p3 p4 p0 (by omega)).mono ?_; rintro e w3 ⟨rfl, hb3'⟩; have hb3 := undrew hb3'; clear hb3'; have Y0 : w3.cell? ⟨B, 0, none⟩ = some (.int .i64 a) := (hb3.cell (p := ⟨B, 0, none⟩) X2).trans X0; have HY : Hid (RgRel w2 w3 (.slice (some ⟨g', 0, none⟩) (m + 1) cap') (R ++ [(rf, rt)])) := HX.out.below hb3; clear hb3))
          all_goals
            have HF := Lib.hid (HY.out.app hgrow4 (by rw [Hm.out]; simp) hown4)
            clear hown4 hgrow4 hat4 hlt4 HY
            go_wp2_with fail
            go_roundw
            case rel => exact ⟨k + 1, by omega, by go_num, by rw [Htake.out, mrgs_snoc, Hcon.out, mrg_last, if_neg (by have := Hle.out; simp only; omega)]; exact HF.out⟩
            case measure => simp [intOf]; omega
    · have hge : ¬ ((k : Int) < (n : Int)) := by omega
      obtain rfl : k = n := by omega
      have hrow := row_of_own hR.out.2 (by have := mrgs_len (M.take k); rw [List.length_take] at this; omega)
      have ht : M.take k = M := List.take_of_length_le (by rw [HML.out]; exact Nat.le_refl _)
      rw [ht] at hrow
      have hBf := HBw.out.trans (hR.out.1.mono HBw.out.size)
      have Hrow := Lib.hid (hrow.wide (lo' := w.heap.size) (hi' := wr.heap.size) HBw.out.size (Nat.le_refl _))
      clear hrow ht
      go_wp2
      go_ret
      exact ⟨_, rfl, M, Hp.out.1, Hp.out.2, Hrow.out, hBf⟩
end Go.Proofs.Ytpfeekdmeloakaa
