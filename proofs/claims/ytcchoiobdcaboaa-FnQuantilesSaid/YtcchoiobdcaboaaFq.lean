/- The law on quantiles, walked. -/
import Derived.Test.YtcchoiobdcaboaaS13
import Derived.Test.YtcchoiobdcaboaaMq
import Derived.Test.YtcchoiobdcaboaaReg
import Derived.Deep.DeepCutAuto
namespace Go.Proofs.Ytcchoiobdcaboaa
open Go.RowKit


theorem OwnR.cell {T : TypeId} {w wr : World} {g n c : Nat} {Z : List Int} (h : OwnR T 1 w wr (.slice (some ⟨g, 0, none⟩) n c) n Z) {q : Nat} {z : Int} (hz : Z[q]? = some z) : wr.cell? ⟨g, q, none⟩ = some (.int .i64 z) ∧ g < wr.heap.size ∧ w.heap.size ≤ g := by
  have c0 := h.row.cells (g := g) rfl _ _ (ints_at hz)
  rw [add_none] at c0
  have := h.row.lt g rfl
  exact ⟨c0, this.2, this.1⟩
theorem OwnR.some_ {T : TypeId} {w wr : World} {a : Option Addr} {n c : Nat} {Z : List Int} (h : OwnR T 1 w wr (.slice a n c) n Z) (hn : 0 < n) : ∃ g, a = some ⟨g, 0, none⟩ := by
  obtain ⟨g, cap, e, _⟩ := h.row.form hn
  simp only [Value.slice.injEq] at e
  exact ⟨g, e.1⟩
theorem OwnR.base {T : TypeId} {w w1 wr : World} {v : Value} {n : Nat} {Z : List Int} (h : OwnR T 1 w1 wr v n Z) (hb : Below w.heap.size w w1) : OwnR T 1 w wr v n Z :=
  ⟨hb.trans (h.below.mono hb.size), own_base h.row hb.size⟩
theorem OwnR.drew {T : TypeId} {w wr : World} {v : Value} {n : Nat} {Z : List Int} (h : OwnR T 1 w wr v n Z) : OwnR T 1 w wr.drew v n Z := h.grow (Below.refl _ _).drew
theorem Row.cells {w : World} {lo hi g n c : Nat} {Z : List Int} (h : Row 1 w lo hi (.slice (some ⟨g, 0, none⟩) n c) n Z) : ∀ q z, Z[q]? = some z → w.cell? ⟨g, q, none⟩ = some (.int .i64 z) := by
  intro q z hz
  obtain ⟨h0, ⟨e, _⟩ | ⟨b, cap, e, h1, h2, _, h4, _⟩⟩ := h
  · have := lt_of_at hz; omega
  · simp only [Value.slice.injEq, Option.some.injEq] at e
    obtain ⟨e, _⟩ := e
    have e2 : g = b := by simpa using e
    rw [e2]; exact h4 q z hz
/-- The list in which a value is being put, behind j elements. -/
def nxt (x : Int) (A : List Int) : List Int := if hasG x A then ins x A else A
theorem nxt_len (x : Int) (A : List Int) : (nxt x A).length = A.length + (if hasG x A then 1 else 0) := by
  unfold nxt
  split
  · rw [ins_len]
  · rfl
theorem nxt_put {x y : Int} {A : List Int} (h : hasG x A = false) (hxy : x < y) : hasG x (A ++ [y]) = true ∧ nxt x A ++ [x] ++ [y] = nxt x (A ++ [y]) := by
  have e : hasG x (A ++ [y]) = true := by rw [hasG_snoc, h, decide_eq_true hxy]; rfl
  refine ⟨e, ?_⟩
  unfold nxt
  rw [h, e, if_neg (by simp), if_pos rfl, ins_first h hxy]
  simp
theorem nxt_go {x y : Int} {A : List Int} (h : hasG x A = false) (hxy : ¬ x < y) : hasG x (A ++ [y]) = false ∧ nxt x A ++ [y] = nxt x (A ++ [y]) := by
  have e : hasG x (A ++ [y]) = false := by rw [hasG_snoc, h, decide_eq_false hxy]; rfl
  refine ⟨e, ?_⟩
  unfold nxt
  rw [h, e]
  rfl
theorem nxt_did {x y : Int} {A : List Int} (h : hasG x A = true) : hasG x (A ++ [y]) = true ∧ nxt x A ++ [y] = nxt x (A ++ [y]) := by
  have e : hasG x (A ++ [y]) = true := by rw [hasG_snoc, h]; rfl
  refine ⟨e, ?_⟩
  unfold nxt
  rw [h, e, if_pos rfl, if_pos rfl, ins_yes h]
theorem nxt_end {x : Int} {A : List Int} : (hasG x A = true → nxt x A = ins x A) ∧ (hasG x A = false → nxt x A ++ [x] = ins x A) := by
  refine ⟨fun h => by unfold nxt; rw [if_pos h], fun h => by unfold nxt; rw [if_neg (by simp [h]), ins_no h]⟩

set_option maxRecDepth 100000 in
set_option maxHeartbeats 16000000 in
theorem fnq_any (a : Option Addr) (n cp : Nat) (w : World) (hb : n ≤ 1099511627776 → BytesAt w a n) (hold : ∀ p : Addr, a = some p → p.block < w.heap.size) : Calls Try.prog 3 #[.slice a n cp] w fun e w' => e = .returned (.bool true) ∧ Below w.heap.size w w' := by
  have HO := Lib.hid hold
  have HB := Lib.hid hb
  clear hb hold
  obtain ⟨iI, hi0, hz0, hz1, hz2⟩ := info_parts Try.info3
  have I := Lib.hid (And.intro hi0 (And.intro hz0 (And.intro hz1 hz2)))
  clear hi0 hz0 hz1 hz2
  go_enter Try.func3, Try.ntmps3
  go_wp2_with fail
  go_at_call 14
  refine (big_any a n cp _).mono ?_
  rintro e w' ⟨rfl, rfl⟩
  by_cases hbig : (n : Int) > 1048576
  · rw [decide_eq_true hbig]
    go_wp2_with fail
    go_ret
    exact ⟨rfl, Below.refl _ _⟩
  rw [decide_eq_false hbig]
  have hn48 : n ≤ 1048576 := by omega
  go_wp2_with fail
  go_at_call 15
  refine (dho_any a n cp _ (HB.out (by omega)) HO.out).mono ?_
  rintro e w1 ⟨rv, A, rfl, hAl, hr, hc, hb1⟩
  obtain ⟨ra, rc, rfl⟩ := hr.slice
  have hcap : A.length ≤ rc := by
    by_cases h : 0 < A.length
    · obtain ⟨x, c, e, h1⟩ := hc h
      simp only [Value.slice.injEq] at e
      omega
    · omega
  have HBY : Hid (BytesAt w a n) := HB.out (by omega)
  obtain ⟨m, hm⟩ : ∃ m, m = A.length := ⟨_, rfl⟩
  rw [← hm] at hr hcap hAl ⊢
  have HM := Lib.hid hm
  have HR1 := Lib.hid hr
  have HB1 := Lib.hid hb1
  have hs01 := hb1.size
  clear hr hc hb1 HB HO hbig hm
  obtain ⟨bo, hbo⟩ : ∃ q, q = hoB A := ⟨_, rfl⟩
  obtain ⟨so, hso⟩ : ∃ q, q = hoS A := ⟨_, rfl⟩
  obtain ⟨co, hco⟩ : ∃ q, q = hoC A := ⟨_, rfl⟩
  obtain ⟨lo, hlo⟩ : ∃ q, q = co.length := ⟨_, rfl⟩
  have HBO := Lib.hid hbo
  have HSO := Lib.hid hso
  have HCO := Lib.hid hco
  have HLO := Lib.hid hlo
  have hl21 : lo ≤ 21 := by rw [hlo, hco]; unfold hoC; split <;> simp [hC_len]
  clear hbo hso hco hlo
  go_wp2_with fail
  go_at_call 16
  refine (iho_any _ _ m _ A _ HR1.out (by first | omega | (simp; done) | (simp; omega))).mono ?_
  rw [← HBO.out, ← HSO.out, ← HCO.out, ← HLO.out]
  rintro e v1 ⟨vH, rfl, hr, hb1⟩
  have sz1 : w1.heap.size ≤ v1.heap.size := hb1.size
  have st1 : Below w1.heap.size w1 v1 := hb1
  have B1 : Hid (Below w.heap.size w v1) := HB1.out.trans (st1.mono (by omega))
  have R1_0 : Hid (Row 1 v1 (w.heap.size) (w1.heap.size) (.slice ra m rc) m A) := HR1.out.below st1 (by omega)
  have R1_1 : Hid (Row 1 v1 (w1.heap.size) (v1.heap.size) vH lo co) := hr
  clear HB1 st1 HR1 hr hb1
  obtain ⟨Ha, Hc, rfl⟩ := R1_1.out.slice
  go_wp2_with fail
  go_at_call 17
  refine (sho_any _ _ m _ A _ (R1_0.out.below (B := v1.heap.size) (by go_grown) (by omega)) (by first | omega | (simp; done) | (simp; omega))).mono ?_
  rw [← HBO.out, ← HSO.out, ← HCO.out, ← HLO.out]
  rintro e v2 ⟨vW, rfl, hr, hb2⟩
  have sz2 : v1.heap.size + 1 ≤ v2.heap.size := by have hh := hb2.size; simp at hh; omega
  have st2 : Below v1.heap.size v1 v2 := Below.trans (by go_grown) (hb2.mono (by simp))
  have c2_0 : v2.cell? ⟨v1.heap.size, 0, none⟩ = some (.slice Ha lo Hc) := by rw [(bcell hb2).1 _ _ (by simp)]; first | (rw [new_at (by simp)]; rfl) | simp
  have c2_1 : v2.cell? ⟨v1.heap.size, 1, none⟩ = some (.int .i64 so) := by rw [(bcell hb2).1 _ _ (by simp)]; first | (rw [new_at (by simp)]; rfl) | simp
  have B2 : Hid (Below w.heap.size w v2) := B1.out.trans (st2.mono (by omega))
  have R2_0 : Hid (Row 1 v2 (w.heap.size) (w1.heap.size) (.slice ra m rc) m A) := R1_0.out.below st2 (by omega)
  have R2_1 : Hid (Row 1 v2 (w1.heap.size) (v1.heap.size) (.slice Ha lo Hc) lo co) := R1_1.out.below st2 (by omega)
  have R2_2 : Hid (Row 1 v2 (v1.heap.size + 1) (v2.heap.size) vW lo co) := hr.wide (by simp) (Nat.le_refl _)
  have d2_0 : v1.heap.size < v2.heap.size := by omega
  have e2_0 : v1.heap.size ≠ v2.heap.size := by omega
  clear B1 st2 R1_0 R1_1 hb2
  obtain ⟨Wa, Wc, rfl⟩ := R2_2.out.slice
  go_upto_region 6 with fail
  obtain ⟨q3, hq3⟩ : ∃ q, q = (v2.alloc (.cells #[.slice Wa lo Wc, .int .i64 so] 27)) := ⟨_, rfl⟩
  have hb3 : Below v2.heap.size v2 q3 := by rw [hq3]; go_grown
  have sz3 : v2.heap.size + 1 ≤ q3.heap.size := by rw [hq3]; simp
  have c3_0 : q3.cell? ⟨v1.heap.size, 0, none⟩ = some (.slice Ha lo Hc) := by rw [(bcell hb3).1 _ _ (by omega)]; exact c2_0
  have c3_1 : q3.cell? ⟨v1.heap.size, 1, none⟩ = some (.int .i64 so) := by rw [(bcell hb3).1 _ _ (by omega)]; exact c2_1
  have c3_2 : q3.cell? ⟨v2.heap.size, 0, none⟩ = some (.slice Wa lo Wc) := by rw [hq3, new_at (by simp)]; rfl
  have c3_3 : q3.cell? ⟨v2.heap.size, 1, none⟩ = some (.int .i64 so) := by rw [hq3, new_at (by simp)]; rfl
  have B3 : Hid (Below w.heap.size w q3) := Lib.hid (B2.out.trans (hb3.mono (by omega)))
  have R3_0 : Hid (Row 1 q3 (w.heap.size) (w1.heap.size) (.slice ra m rc) m A) := Lib.hid (R2_0.out.below hb3 (by omega))
  have R3_1 : Hid (Row 1 q3 (w1.heap.size) (v1.heap.size) (.slice Ha lo Hc) lo co) := Lib.hid (R2_1.out.below hb3 (by omega))
  have R3_2 : Hid (Row 1 q3 (v1.heap.size + 1) (v2.heap.size) (.slice Wa lo Wc) lo co) := Lib.hid (R2_2.out.below hb3 (by omega))
  rw [← hq3]
  have d3_0 : v1.heap.size < q3.heap.size := by omega
  have e3_0 : v1.heap.size ≠ q3.heap.size := by omega
  have d3_1 : v2.heap.size < q3.heap.size := by omega
  have e3_1 : v2.heap.size ≠ q3.heap.size := by omega
  clear hq3 hb3 d2_0 e2_0 c2_0 c2_1 B2 R2_0 R2_1 R2_2
  go_wp2_with fail
  go_at_call 18
  refine (same_same co lo _ _ _ _ _ _ _ R3_1.out R3_2.out (by first | omega | (simp; done) | (simp; omega)) (by first | omega | (simp; done) | (simp; omega))).mono ?_
  rintro e v4 ⟨rfl, hb4⟩
  have sz4 : q3.heap.size ≤ v4.heap.size := hb4.size
  have st4 : Below q3.heap.size q3 v4 := hb4
  have c4_0 : v4.cell? ⟨v1.heap.size, 0, none⟩ = some (.slice Ha lo Hc) := by rw [(bcell st4).1 _ _ (by omega)]; exact c3_0
  have c4_1 : v4.cell? ⟨v1.heap.size, 1, none⟩ = some (.int .i64 so) := by rw [(bcell st4).1 _ _ (by omega)]; exact c3_1
  have c4_2 : v4.cell? ⟨v2.heap.size, 0, none⟩ = some (.slice Wa lo Wc) := by rw [(bcell st4).1 _ _ (by omega)]; exact c3_2
  have c4_3 : v4.cell? ⟨v2.heap.size, 1, none⟩ = some (.int .i64 so) := by rw [(bcell st4).1 _ _ (by omega)]; exact c3_3
  have B4 : Hid (Below w.heap.size w v4) := B3.out.trans (st4.mono (by omega))
  have R4_0 : Hid (Row 1 v4 (w.heap.size) (w1.heap.size) (.slice ra m rc) m A) := R3_0.out.below st4 (by omega)
  have R4_1 : Hid (Row 1 v4 (w1.heap.size) (v1.heap.size) (.slice Ha lo Hc) lo co) := R3_1.out.below st4 (by omega)
  have R4_2 : Hid (Row 1 v4 (v1.heap.size + 1) (v2.heap.size) (.slice Wa lo Wc) lo co) := R3_2.out.below st4 (by omega)
  have d4_0 : v1.heap.size < v4.heap.size := by omega
  have e4_0 : v1.heap.size ≠ v4.heap.size := by omega
  have d4_1 : v2.heap.size < v4.heap.size := by omega
  have e4_1 : v2.heap.size ≠ v4.heap.size := by omega
  clear d3_0 e3_0 d3_1 e3_1 c3_0 c3_1 c3_2 c3_3 B3 st4 R3_0 R3_1 R3_2 hb4
  go_upto_region 8 with fail
  cases bo with
  | false =>
    go_wp2_with fail
    go_ret
    exact ⟨rfl, B4.out⟩
  | true =>
  by_cases hm0' : m = 0
  case pos =>
    have hm0 : ((m : Int) == 0) = true := by simp [hm0']
    go_wp2_with fail
    go_ret
    exact ⟨rfl, B4.out⟩
  case neg =>
  have hm0 : ((m : Int) == 0) = false := by simp [hm0']
  have hmp : 0 < m := by omega
  have hyes := ho_yes (L := A) HBO.out.symm
  have HV : Hid (hV A = true ∧ m ≤ 300) := by
    have h := HBO.out.symm
    unfold hoB at h
    rw [Bool.and_eq_true, decide_eq_true_eq] at h
    exact Lib.hid ⟨h.2, by rw [HM.out]; exact h.1⟩
  have m300 := HV.out.2
  have hsin := hS_in A HV.out.1
  have HCE : Hid (co = hC A ∧ so = hS A) := ⟨HCO.out.trans hyes.1, HSO.out.trans hyes.2⟩
  obtain rfl : lo = 21 := by rw [HLO.out, HCE.out.1, hC_len]
  clear hyes hsin hl21
  obtain ⟨ga, rfl, gal, gah, hga⟩ : ∃ g, ra = some ⟨g, 0, none⟩ ∧ w.heap.size ≤ g ∧ g < w1.heap.size ∧ ∀ q z, A[q]? = some z → v4.cell? ⟨g, q, none⟩ = some (.int .i64 z) := by
    have h := R4_0.out
    obtain ⟨_, ⟨e, _⟩ | ⟨g, cap, e, h1, h2, _, h4, _⟩⟩ := h
    · omega
    · simp only [Value.slice.injEq] at e
      exact ⟨g, e.1, h1, h2, h4⟩
  have HGA := Lib.hid hga
  clear hga
  go_wp2_with fail
  have HK0 : Hid (OwnR 3 1 v4 (v4.alloc (.cells #[] 3)) (.slice (some ⟨v4.heap.size, 0, none⟩) 0 0) 0 (rowOf (A.take 0))) := OwnR.lit0 3 1 v4
  go_loopw [8, 9, 10] (fun r s i wr => ∃ (k : Nat) (va : Option Addr) (vc : Nat) (su : Int), k ≤ m ∧ i = .int .i64 (k : Int) ∧ s = .int .i64 su ∧ r = .slice va k vc ∧ 0 ≤ su ∧ su ≤ 300000000 ∧ Hid (su = hS (A.take k)) ∧ Hid (OwnR 3 1 v4 wr (.slice va k vc) k (rowOf (A.take k)))) (fun _ _ i _ => m - (intOf i).toNat)
  case atStart => exact ⟨0, _, _, 0, Nat.zero_le _, rfl, rfl, rfl, by omega, by omega, Lib.hid rfl, HK0⟩
  case round =>
    clear HK0
    obtain ⟨k, va, vc, su, hk, rfl, rfl, rfl, su0, su1, hSU, hR⟩ := hrel
    have hbw := hR.out.below
    have hszw := hbw.size
    by_cases hlt : k < m
    case pos =>
      obtain ⟨wo, rfl⟩ : ∃ y, y = wr := ⟨_, rfl⟩
      obtain ⟨x, hx⟩ : ∃ x, A[k]? = some x := ⟨_, List.getElem?_eq_getElem (by rw [← HM.out]; exact hlt)⟩
      have HX := Lib.hid hx
      have hxb := hV_mem HV.out.1 (List.mem_of_getElem? hx)
      obtain ⟨xb0, xb1⟩ := hxb
      have hsk := hS_in (A.take k) (by have h := HV.out.1; rw [← List.take_append_drop k A, hV_app, Bool.and_eq_true] at h; exact h.1)
      have hkl : ((A.take k).length : Int) ≤ 299 := by rw [List.length_take]; omega
      rw [← hSU.out] at hsk
      have sx0 : 0 ≤ su + x := by omega
      have sx1 : su + x ≤ 300000000 := by omega
      have HSX : Hid (su + x = hS (A.take (k + 1))) := by show _ = _; rw [(hC_take hx).2.1, hSU.out]
      have HRX : Hid (rowOf (A.take (k + 1)) = ins x (rowOf (A.take k))) := rowOf_take hx
      have hgw : ga < wo.heap.size := by omega
      have dx : wo.cell? ⟨ga, k, none⟩ = some (.int .i64 x) := by rw [hbw.cell (p := ⟨ga, k, none⟩) (by show ga < _; omega)]; exact HGA.out k x hx
      have k0 : (0 : Int) ≤ (k : Int) := by omega
      have k1 : (k : Int) < (m : Int) := by omega
      obtain ⟨R, hRR⟩ : ∃ R, R = rowOf (A.take k) := ⟨_, rfl⟩
      rw [← hRR] at hR HRX
      have hRl : R.length = k := by rw [hRR, rowOf_len, List.length_take]; have := HM.out; omega
      have HRl := Lib.hid hRl
      have DX := Lib.hid dx
      have HBW := Lib.hid hbw
      clear hx hsk hkl hRR hRl hbw hSU
      go_wp2_with fail
      clear dx
      have HN0 : Hid (OwnR 3 1 wo (wo.alloc (.cells #[] 3)) (.slice (some ⟨wo.heap.size, 0, none⟩) 0 0) 0 (nxt x (R.take 0))) := OwnR.lit0 3 1 wo
      go_loopw [11, 12, 13] (fun nx pu i wr => ∃ (j nl : Nat) (na : Option Addr) (nc : Nat), j ≤ k ∧ nl ≤ j + 1 ∧ i = .int .i64 (j : Int) ∧ pu = .bool (hasG x (R.take j)) ∧ nx = .slice na nl nc ∧ Hid (nl = (nxt x (R.take j)).length) ∧ Hid (OwnR 3 1 wo wr (.slice na nl nc) nl (nxt x (R.take j)))) (fun _ _ i _ => k - (intOf i).toNat)
      case atStart => exact ⟨0, 0, _, _, Nat.zero_le _, by omega, rfl, rfl, rfl, Lib.hid rfl, HN0⟩
      case round =>
        clear HN0
        obtain ⟨j, nl, na, nc, hj, hnl, rfl, rfl, rfl, hNL, hW⟩ := hrel
        have hbi := hW.out.below
        have hszi := hbi.size
        have dx : wr.cell? ⟨ga, k, none⟩ = some (.int .i64 x) := by rw [hbi.cell (p := ⟨ga, k, none⟩) hgw]; exact DX.out
        have hgi : ga < wr.heap.size := by omega
        by_cases hjk : j < k
        case pos =>
          obtain ⟨gr, rfl⟩ := hR.out.some_ (by omega)
          obtain ⟨y, hy⟩ : ∃ y, R[j]? = some y := ⟨_, List.getElem?_eq_getElem (by rw [HRl.out]; exact hjk)⟩
          obtain ⟨cy, gr1, gr2⟩ := hR.out.cell hy
          have dy : wr.cell? ⟨gr, j, none⟩ = some (.int .i64 y) := by rw [hbi.cell (p := ⟨gr, j, none⟩) gr1]; exact cy
          have hgr : gr < wr.heap.size := by omega
          have j0 : (0 : Int) ≤ (j : Int) := by omega
          have j1 : (j : Int) < (k : Int) := by omega
          have HT : Hid (R.take (j + 1) = R.take j ++ [y]) := take_snoc1 hy
          obtain ⟨Q, hQ⟩ : ∃ Q, Q = R.take j := ⟨_, rfl⟩
          rw [← hQ] at hNL hW HT
          simp only [← hQ]
          have HQl : Hid (Q.length = j) := by show _ = _; rw [hQ, List.length_take, HRl.out]; omega
          have CY0 := Lib.hid cy
          clear hQ cy hy hbi
          cases hg : hasG x Q with
          | true =>
            obtain ⟨e1, e2⟩ := nxt_did (y := y) hg
            have E := Lib.hid (And.intro e1 e2)
            clear e1 e2 hg
            go_upto_region 21 with fail
      
            refine wp_region_held_drew (S := (fun w' => w'.cell? ⟨ga, k, none⟩ = some (.int .i64 x) ∧ w'.cell? ⟨gr, j, none⟩ = some (.int .i64 y) ∧ wr.heap.size ≤ w'.heap.size ∧ Below wr.heap.size wr w')) (by kernel_rfl) ?_ (fun hHeld => ?_)
            · exact ⟨dx, dy, Nat.le_refl _, (Below.refl _ _).drew⟩
            refine step_read 0 86 rfl rfl (by kernel_rfl) (by kernel_rfl) (by kernel_rfl) (fun _ _ _ h => h) (by rfl) (v := ?_) (fun w hSw => ?_) (by assumption) ?_; rotate_left; (focus ((try dsimp only at hSw); go_simp; first | done | exact rfl)); simp only [List.set]
            refine step_read 1 87 rfl rfl (by kernel_rfl) (by kernel_rfl) (by kernel_rfl) (fun _ _ _ h => h) (by rfl) (v := ?_) (fun w hSw => ?_) (by assumption) ?_; rotate_left; (focus ((try dsimp only at hSw); go_simp; first | done | exact rfl)); simp only [List.set]
            refine step_read 2 88 rfl rfl (by kernel_rfl) (by kernel_rfl) (by kernel_rfl) (fun _ _ _ h => h) (by rfl) (v := ?_) (fun w hSw => ?_) (by assumption) ?_; rotate_left; (focus ((try dsimp only at hSw); go_simp; first | done | exact rfl)); simp only [List.set]
            refine step_skip 3 89 rfl rfl (by kernel_rfl) (by kernel_rfl) (by kernel_rfl) (fun _ _ _ h => h) (by rfl) (by assumption) ?_; simp only [List.set]
            refine step_skip 4 90 rfl rfl (by kernel_rfl) (by kernel_rfl) (by kernel_rfl) (fun _ _ _ h => h) (by rfl) (by assumption) ?_; simp only [List.set]
            refine step_skip 5 91 rfl rfl (by kernel_rfl) (by kernel_rfl) (by kernel_rfl) (fun _ _ _ h => h) (by rfl) (by assumption) ?_; simp only [List.set]
            refine step_skip 6 92 rfl rfl (by kernel_rfl) (by kernel_rfl) (by kernel_rfl) (fun _ _ _ h => h) (by rfl) (by assumption) ?_; simp only [List.set]
            refine step_skip 7 93 rfl rfl (by kernel_rfl) (by kernel_rfl) (by kernel_rfl) (fun _ _ _ h => h) (by rfl) (by assumption) ?_; simp only [List.set]
            refine step_skip 8 94 rfl rfl (by kernel_rfl) (by kernel_rfl) (by kernel_rfl) (fun _ _ _ h => h) (by rfl) (by assumption) ?_; simp only [List.set]
            refine step_skip 9 95 rfl rfl (by kernel_rfl) (by kernel_rfl) (by kernel_rfl) (fun _ _ _ h => h) (by rfl) (by assumption) ?_; simp only [List.set]
            refine step_skip 10 96 rfl rfl (by kernel_rfl) (by kernel_rfl) (by kernel_rfl) (fun _ _ _ h => h) (by rfl) (by assumption) ?_; simp only [List.set]
            refine step_skip 11 97 rfl rfl (by kernel_rfl) (by kernel_rfl) (by kernel_rfl) (fun _ _ _ h => h) (by rfl) (by assumption) ?_; simp only [List.set]
            refine step_read 12 98 rfl rfl (by kernel_rfl) (by kernel_rfl) (by kernel_rfl) (fun _ _ _ h => h) (by rfl) (v := ?_) (fun w hSw => ?_) (by assumption) ?_; rotate_left; (focus ((try dsimp only at hSw); go_simp; first | done | exact rfl)); simp only [List.set]
            refine wpAnyH_done (by kernel_rfl) ?_ _
            obtain ⟨dx2, dy2, _, _⟩ := hHeld
            have hW2 : Hid (OwnR 3 1 wo wr.drew (.slice na nl nc) nl (nxt x Q)) := hW.out.drew
            clear hW dx dy
            go_wp2_with (at_builtin; refine wpList_append_lies _ rfl _ _ 24 rfl wo.heap.size 3 iI (.int .i64 0) 1 8 Try.underlying24 I.out.1 I.out.2.1 I.out.2.2.1 I.out.2.2.2 rfl (by decide) _ nl (ints (nxt x Q)) rfl (hW2.out.row.alloc _) ⟨wr.heap.size, 0, none⟩ 1 1 (ints [y]) rfl rfl ?d0 (ints_one _) (by decide) ?d1 ?d2 ?d3 _ rfl ?_)
            case d0 => first | exact fun a_ u ha => cells_new _ [y] 3 rfl a_ u ha | exact fun a_ u ha => by simpa [ints] using ha
            case d1 => unfold maxLen; omega
            case d2 => omega
            case d3 => first | omega | (simp; omega)
            intro gd capd w5 hown5 hgrow5 hat5 hlt5
            have HF : Hid (OwnR 3 1 wo w5 (.slice (some ⟨gd, 0, none⟩) (nl + 1) capd) (nl + 1) ((nxt x Q) ++ [y])) := (hW2.out.grow ((Below.refl _ _).alloc (Nat.le_refl _) _)).app hgrow5 hown5
            clear hown5 hgrow5 hat5 hlt5
            clear hW2 dx2 dy2
            have HNL2 : Hid (nl + 1 = (nxt x (Q ++ [y])).length) := by show _ = _; rw [← E.out.2]; simp only [List.length_append, List.length_singleton]; have := hNL.out; omega
            have HF2 := HF.out
            rw [E.out.2] at HF2
            have HF3 := Lib.hid HF2
            clear HF2 HF hNL
            go_wp2_with fail
            go_roundw
            case rel => exact ⟨j + 1, nl + 1, _, _, by omega, by omega, by go_num, by rw [HT.out, E.out.1], rfl, by rw [HT.out]; exact HNL2, by rw [HT.out]; exact HF3⟩
            case measure => simp [intOf]; omega
          | false =>
            have hnl3 : nl ≤ j := by have h := hNL.out; rw [nxt_len, hg, HQl.out] at h; have h2 : nl = j := (by simpa using h); omega
            by_cases hxy : x < y
            case pos =>
              obtain ⟨e1, e2⟩ := nxt_put hg hxy
              have E := Lib.hid (And.intro e1 e2)
              have CY : Hid (wo.cell? ⟨gr, j, none⟩ = some (.int .i64 y)) := CY0
              clear e1 e2 hg
              go_upto_region 21 with fail
              refine wp_region_held_drew (S := (fun w' => w'.cell? ⟨ga, k, none⟩ = some (.int .i64 x) ∧ w'.cell? ⟨gr, j, none⟩ = some (.int .i64 y) ∧ wr.heap.size ≤ w'.heap.size ∧ Below wr.heap.size wr w')) (by kernel_rfl) ?_ (fun hHeld => ?_)
              · exact ⟨dx, dy, Nat.le_refl _, (Below.refl _ _).drew⟩
              refine step_read 0 86 rfl rfl (by kernel_rfl) (by kernel_rfl) (by kernel_rfl) (fun _ _ _ h => h) (by rfl) (v := ?_) (fun w hSw => ?_) (by assumption) ?_; rotate_left; (focus ((try dsimp only at hSw); go_simp; first | done | exact rfl)); simp only [List.set]
              refine step_read 1 87 rfl rfl (by kernel_rfl) (by kernel_rfl) (by kernel_rfl) (fun _ _ _ h => h) (by rfl) (v := ?_) (fun w hSw => ?_) (by assumption) ?_; rotate_left; (focus ((try dsimp only at hSw); go_simp; first | done | exact rfl)); simp only [List.set]
              refine step_read 2 88 rfl rfl (by kernel_rfl) (by kernel_rfl) (by kernel_rfl) (fun _ _ _ h => h) (by rfl) (v := ?_) (fun w hSw => ?_) (by assumption) ?_; rotate_left; (focus ((try dsimp only at hSw); go_simp; first | done | exact rfl)); simp only [List.set]
              refine step_read 3 89 rfl rfl (by kernel_rfl) (by kernel_rfl) (by kernel_rfl) (fun _ _ _ h => h) (by rfl) (v := ?_) (fun w hSw => ?_) (by assumption) ?_; rotate_left; (focus ((try dsimp only at hSw); go_simp; first | done | exact rfl)); simp only [List.set]
              refine step_read 4 90 rfl rfl (by kernel_rfl) (by kernel_rfl) (by kernel_rfl) (fun _ _ _ h => h) (by rfl) (v := ?_) (fun w hSw => ?_) (by assumption) ?_; rotate_left; (focus ((try dsimp only at hSw); go_simp; first | done | exact rfl)); simp only [List.set]
              refine step_read 5 91 rfl rfl (by kernel_rfl) (by kernel_rfl) (by kernel_rfl) (fun _ _ _ h => h) (by rfl) (v := ?_) (fun w hSw => ?_) (by assumption) ?_; rotate_left; (focus ((try dsimp only at hSw); go_simp; first | done | exact rfl)); simp only [List.set]
              refine step_read 6 92 rfl rfl (by kernel_rfl) (by kernel_rfl) (by kernel_rfl) (fun _ _ _ h => h) (by rfl) (v := ?_) (fun w hSw => ?_) (by assumption) ?_; rotate_left; (focus ((try dsimp only at hSw); go_simp; first | done | exact rfl)); simp only [List.set]
              refine step_read 7 93 rfl rfl (by kernel_rfl) (by kernel_rfl) (by kernel_rfl) (fun _ _ _ h => h) (by rfl) (v := ?_) (fun w hSw => ?_) (by assumption) ?_; rotate_left; (focus ((try dsimp only at hSw); go_simp; first | done | exact rfl)); simp only [List.set]
              refine step_read 8 94 rfl rfl (by kernel_rfl) (by kernel_rfl) (by kernel_rfl) (fun _ _ _ h => h) (by rfl) (v := ?_) (fun w hSw => ?_) (by assumption) ?_; rotate_left; (focus ((try dsimp only at hSw); go_simp; first | done | exact rfl)); simp only [List.set]
              refine step_read 9 95 rfl rfl (by kernel_rfl) (by kernel_rfl) (by kernel_rfl) (fun _ _ _ h => h) (by rfl) (v := ?_) (fun w hSw => ?_) (by assumption) ?_; rotate_left; (focus ((try dsimp only at hSw); go_simp; first | done | exact rfl)); simp only [List.set]
              refine step_read 10 96 rfl rfl (by kernel_rfl) (by kernel_rfl) (by kernel_rfl) (fun _ _ _ h => h) (by rfl) (v := ?_) (fun w hSw => ?_) (by assumption) ?_; rotate_left; (focus ((try dsimp only at hSw); go_simp; first | done | exact rfl)); simp only [List.set]
              refine step_read 11 97 rfl rfl (by kernel_rfl) (by kernel_rfl) (by kernel_rfl) (fun _ _ _ h => h) (by rfl) (v := ?_) (fun w hSw => ?_) (by assumption) ?_; rotate_left; (focus ((try dsimp only at hSw); go_simp; first | done | exact rfl)); simp only [List.set]
              refine step_read 12 98 rfl rfl (by kernel_rfl) (by kernel_rfl) (by kernel_rfl) (fun _ _ _ h => h) (by rfl) (v := ?_) (fun w hSw => ?_) (by assumption) ?_; rotate_left; (focus ((try dsimp only at hSw); go_simp; first | done | exact rfl)); simp only [List.set]
              refine wpAnyH_done (by kernel_rfl) ?_ _
              obtain ⟨dx2, dy2, _, _⟩ := hHeld
              have hW2 : Hid (OwnR 3 1 wo wr.drew (.slice na nl nc) nl (nxt x Q)) := hW.out.drew
              clear hW dx dy
              go_wp2_with (at_builtin; refine wpList_append_lies _ rfl _ _ 24 rfl wo.heap.size 3 iI (.int .i64 0) 1 8 Try.underlying24 I.out.1 I.out.2.1 I.out.2.2.1 I.out.2.2.2 rfl (by decide) _ nl (ints (nxt x Q)) rfl (hW2.out.row.alloc _) ⟨wr.heap.size, 0, none⟩ 1 1 (ints [x]) rfl rfl ?d0 (ints_one _) (by decide) ?d1 ?d2 ?d3 _ rfl ?_)
              case d0 => first | exact fun a_ u ha => cells_new _ [x] 3 rfl a_ u ha | exact fun a_ u ha => by simpa [ints] using ha
              case d1 => unfold maxLen; omega
              case d2 => omega
              case d3 => first | omega | (simp; omega)
              intro gd capd w5 hown5 hgrow5 hat5 hlt5
              have HF : Hid (OwnR 3 1 wo w5 (.slice (some ⟨gd, 0, none⟩) (nl + 1) capd) (nl + 1) ((nxt x Q) ++ [x])) := (hW2.out.grow ((Below.refl _ _).alloc (Nat.le_refl _) _)).app hgrow5 hown5
              clear hown5 hgrow5 hat5 hlt5
              clear hW2 dx2 dy2
              have dy5 : w5.cell? ⟨gr, j, none⟩ = some (.int .i64 y) := by rw [HF.out.below.cell (p := ⟨gr, j, none⟩) gr1]; exact CY.out
              have hgr5 : gr < w5.heap.size := Nat.lt_of_lt_of_le gr1 HF.out.below.size
              have hs5 := HF.out.below.size
              go_wp2_with (at_builtin; refine wpList_append_lies _ rfl _ _ 24 rfl wo.heap.size 3 iI (.int .i64 0) 1 8 Try.underlying24 I.out.1 I.out.2.1 I.out.2.2.1 I.out.2.2.2 rfl (by decide) _ (nl + 1) (ints (nxt x Q ++ [x])) rfl (HF.out.row.alloc _) ⟨w5.heap.size, 0, none⟩ 1 1 (ints [y]) rfl rfl ?u0 (ints_one _) (by decide) ?u1 ?u2 ?u3 _ rfl ?_)
              case u0 => first | exact fun a_ u ha => cells_new _ [y] 3 rfl a_ u ha | exact fun a_ u ha => by simpa [ints] using ha
              case u1 => unfold maxLen; omega
              case u2 => omega
              case u3 => first | omega | (simp; omega)
              intro gu capu w6 hown5 hgrow5 hat5 hlt5
              have HG : Hid (OwnR 3 1 wo w6 (.slice (some ⟨gu, 0, none⟩) ((nl + 1) + 1) capu) ((nl + 1) + 1) ((nxt x Q ++ [x]) ++ [y])) := (HF.out.grow ((Below.refl _ _).alloc (Nat.le_refl _) _)).app hgrow5 hown5
              clear hown5 hgrow5 hat5 hlt5
              clear HF dy5
              have HNL2 : Hid ((nl + 1) + 1 = (nxt x (Q ++ [y])).length) := by show _ = _; rw [← E.out.2]; simp only [List.length_append, List.length_singleton]; have := hNL.out; omega
              have HF2 := HG.out
              rw [E.out.2] at HF2
              have HF3 := Lib.hid HF2
              clear HF2 HG hNL
              go_wp2_with fail
              go_roundw
              case rel => exact ⟨j + 1, (nl + 1) + 1, _, _, by omega, by omega, by go_num, by rw [HT.out, E.out.1], rfl, by rw [HT.out]; exact HNL2, by rw [HT.out]; exact HF3⟩
              case measure => simp [intOf]; omega
            case neg =>
              obtain ⟨e1, e2⟩ := nxt_go hg hxy
              have E := Lib.hid (And.intro e1 e2)
              clear e1 e2 hg
              go_upto_region 21 with fail
              refine wp_region_held_drew (S := (fun w' => w'.cell? ⟨ga, k, none⟩ = some (.int .i64 x) ∧ w'.cell? ⟨gr, j, none⟩ = some (.int .i64 y) ∧ wr.heap.size ≤ w'.heap.size ∧ Below wr.heap.size wr w')) (by kernel_rfl) ?_ (fun hHeld => ?_)
              · exact ⟨dx, dy, Nat.le_refl _, (Below.refl _ _).drew⟩
              refine step_read 0 86 rfl rfl (by kernel_rfl) (by kernel_rfl) (by kernel_rfl) (fun _ _ _ h => h) (by rfl) (v := ?_) (fun w hSw => ?_) (by assumption) ?_; rotate_left; (focus ((try dsimp only at hSw); go_simp; first | done | exact rfl)); simp only [List.set]
              refine step_read 1 87 rfl rfl (by kernel_rfl) (by kernel_rfl) (by kernel_rfl) (fun _ _ _ h => h) (by rfl) (v := ?_) (fun w hSw => ?_) (by assumption) ?_; rotate_left; (focus ((try dsimp only at hSw); go_simp; first | done | exact rfl)); simp only [List.set]
              refine step_read 2 88 rfl rfl (by kernel_rfl) (by kernel_rfl) (by kernel_rfl) (fun _ _ _ h => h) (by rfl) (v := ?_) (fun w hSw => ?_) (by assumption) ?_; rotate_left; (focus ((try dsimp only at hSw); go_simp; first | done | exact rfl)); simp only [List.set]
              refine step_read 3 89 rfl rfl (by kernel_rfl) (by kernel_rfl) (by kernel_rfl) (fun _ _ _ h => h) (by rfl) (v := ?_) (fun w hSw => ?_) (by assumption) ?_; rotate_left; (focus ((try dsimp only at hSw); go_simp; first | done | exact rfl)); simp only [List.set]
              refine step_read 4 90 rfl rfl (by kernel_rfl) (by kernel_rfl) (by kernel_rfl) (fun _ _ _ h => h) (by rfl) (v := ?_) (fun w hSw => ?_) (by assumption) ?_; rotate_left; (focus ((try dsimp only at hSw); go_simp; first | done | exact rfl)); simp only [List.set]
              refine step_read 5 91 rfl rfl (by kernel_rfl) (by kernel_rfl) (by kernel_rfl) (fun _ _ _ h => h) (by rfl) (v := ?_) (fun w hSw => ?_) (by assumption) ?_; rotate_left; (focus ((try dsimp only at hSw); go_simp; first | done | exact rfl)); simp only [List.set]
              refine step_read 6 92 rfl rfl (by kernel_rfl) (by kernel_rfl) (by kernel_rfl) (fun _ _ _ h => h) (by rfl) (v := ?_) (fun w hSw => ?_) (by assumption) ?_; rotate_left; (focus ((try dsimp only at hSw); go_simp; first | done | exact rfl)); simp only [List.set]
              refine step_read 7 93 rfl rfl (by kernel_rfl) (by kernel_rfl) (by kernel_rfl) (fun _ _ _ h => h) (by rfl) (v := ?_) (fun w hSw => ?_) (by assumption) ?_; rotate_left; (focus ((try dsimp only at hSw); go_simp; first | done | exact rfl)); simp only [List.set]
              refine step_read 8 94 rfl rfl (by kernel_rfl) (by kernel_rfl) (by kernel_rfl) (fun _ _ _ h => h) (by rfl) (v := ?_) (fun w hSw => ?_) (by assumption) ?_; rotate_left; (focus ((try dsimp only at hSw); go_simp; first | done | exact rfl)); simp only [List.set]
              refine step_read 9 95 rfl rfl (by kernel_rfl) (by kernel_rfl) (by kernel_rfl) (fun _ _ _ h => h) (by rfl) (v := ?_) (fun w hSw => ?_) (by assumption) ?_; rotate_left; (focus ((try dsimp only at hSw); go_simp; first | done | exact rfl)); simp only [List.set]
              refine step_read 10 96 rfl rfl (by kernel_rfl) (by kernel_rfl) (by kernel_rfl) (fun _ _ _ h => h) (by rfl) (v := ?_) (fun w hSw => ?_) (by assumption) ?_; rotate_left; (focus ((try dsimp only at hSw); go_simp; first | done | exact rfl)); simp only [List.set]
              refine step_read 11 97 rfl rfl (by kernel_rfl) (by kernel_rfl) (by kernel_rfl) (fun _ _ _ h => h) (by rfl) (v := ?_) (fun w hSw => ?_) (by assumption) ?_; rotate_left; (focus ((try dsimp only at hSw); go_simp; first | done | exact rfl)); simp only [List.set]
              refine step_read 12 98 rfl rfl (by kernel_rfl) (by kernel_rfl) (by kernel_rfl) (fun _ _ _ h => h) (by rfl) (v := ?_) (fun w hSw => ?_) (by assumption) ?_; rotate_left; (focus ((try dsimp only at hSw); go_simp; first | done | exact rfl)); simp only [List.set]
              refine wpAnyH_done (by kernel_rfl) ?_ _
              obtain ⟨dx2, dy2, _, _⟩ := hHeld
              have hW2 : Hid (OwnR 3 1 wo wr.drew (.slice na nl nc) nl (nxt x Q)) := hW.out.drew
              clear hW dx dy
              go_wp2_with (at_builtin; refine wpList_append_lies _ rfl _ _ 24 rfl wo.heap.size 3 iI (.int .i64 0) 1 8 Try.underlying24 I.out.1 I.out.2.1 I.out.2.2.1 I.out.2.2.2 rfl (by decide) _ nl (ints (nxt x Q)) rfl (hW2.out.row.alloc _) ⟨wr.heap.size, 0, none⟩ 1 1 (ints [y]) rfl rfl ?d0 (ints_one _) (by decide) ?d1 ?d2 ?d3 _ rfl ?_)
              case d0 => first | exact fun a_ u ha => cells_new _ [y] 3 rfl a_ u ha | exact fun a_ u ha => by simpa [ints] using ha
              case d1 => unfold maxLen; omega
              case d2 => omega
              case d3 => first | omega | (simp; omega)
              intro gd capd w5 hown5 hgrow5 hat5 hlt5
              have HF : Hid (OwnR 3 1 wo w5 (.slice (some ⟨gd, 0, none⟩) (nl + 1) capd) (nl + 1) ((nxt x Q) ++ [y])) := (hW2.out.grow ((Below.refl _ _).alloc (Nat.le_refl _) _)).app hgrow5 hown5
              clear hown5 hgrow5 hat5 hlt5
              clear hW2 dx2 dy2
              have HNL2 : Hid (nl + 1 = (nxt x (Q ++ [y])).length) := by show _ = _; rw [← E.out.2]; simp only [List.length_append, List.length_singleton]; have := hNL.out; omega
              have HF2 := HF.out
              rw [E.out.2] at HF2
              have HF3 := Lib.hid HF2
              clear HF2 HF hNL
              go_wp2_with fail
              go_roundw
              case rel => exact ⟨j + 1, nl + 1, _, _, by omega, by omega, by go_num, by rw [HT.out, E.out.1], rfl, by rw [HT.out]; exact HNL2, by rw [HT.out]; exact HF3⟩
              case measure => simp [intOf]; omega
        case neg =>
          obtain rfl : j = k := by omega
          have hge : ¬ ((j : Int) < (j : Int)) := by omega
          have ht : R.take j = R := List.take_of_length_le (by rw [HRl.out]; exact Nat.le_refl _)
          rw [ht] at hNL hW
          simp only [ht]
          clear ht hbi
          cases hg : hasG x R with
          | true =>
            obtain rfl : nl = j + 1 := by have h := hNL.out; rw [nxt_len, hg, HRl.out] at h; simpa using h
            have HZ : Hid (OwnR 3 1 v4 wr (.slice na (j + 1) nc) (j + 1) (rowOf (A.take (j + 1)))) := by
              show OwnR _ _ _ _ _ _ _
              rw [HRX.out, ← nxt_end.1 hg]
              exact hW.out.base HBW.out
            clear hg hW hNL dx
            go_wp2_with fail
            go_roundw
            case rel => exact ⟨j + 1, _, _, _, by omega, by go_num, rfl, rfl, sx0, sx1, HSX, HZ⟩
            case measure => simp [intOf]; omega
          | false =>
            obtain rfl : nl = j := by have h := hNL.out; rw [nxt_len, hg, HRl.out] at h; simpa using h
            go_wp2_with (at_builtin; refine wpList_append_lies _ rfl _ _ 24 rfl wo.heap.size 3 iI (.int .i64 0) 1 8 Try.underlying24 I.out.1 I.out.2.1 I.out.2.2.1 I.out.2.2.2 rfl (by decide) _ nl (ints (nxt x R)) rfl (hW.out.row.alloc _) ⟨wr.heap.size, 0, none⟩ 1 1 (ints [x]) rfl rfl ?d0 (ints_one _) (by decide) ?d1 ?d2 ?d3 _ rfl ?_)
            case d0 => first | exact fun a_ u ha => cells_new _ [x] 3 rfl a_ u ha | exact fun a_ u ha => by simpa [ints] using ha
            case d1 => unfold maxLen; omega
            case d2 => omega
            case d3 => first | omega | (simp; omega)
            intro gd capd w5 hown5 hgrow5 hat5 hlt5
            have HF : Hid (OwnR 3 1 wo w5 (.slice (some ⟨gd, 0, none⟩) (nl + 1) capd) (nl + 1) ((nxt x R) ++ [x])) := (hW.out.grow ((Below.refl _ _).alloc (Nat.le_refl _) _)).app hgrow5 hown5
            clear hown5 hgrow5 hat5 hlt5
            have HZ : Hid (OwnR 3 1 v4 w5 (.slice (some ⟨gd, 0, none⟩) (nl + 1) capd) (nl + 1) (rowOf (A.take (nl + 1)))) := by
              have h := HF.out.base HBW.out
              rw [nxt_end.2 hg, ← HRX.out] at h
              exact h
            clear hg HF hW hNL dx
            go_wp2_with fail
            go_roundw
            case rel => exact ⟨nl + 1, _, _, _, by omega, by go_num, rfl, rfl, sx0, sx1, HSX, HZ⟩
            case measure => simp [intOf]; omega
    case neg =>
    obtain rfl : k = m := by omega
    have hge : ¬ ((k : Int) < (k : Int)) := by omega
    have ht : A.take k = A := List.take_of_length_le (by rw [← HM.out]; exact Nat.le_refl _)
    rw [ht] at hSU hR
    clear ht
    obtain ⟨gr, rfl⟩ := hR.out.some_ hmp
    have hbT := hR.out.below
    have hmk : ∀ i, i < k → ∃ x, (rowOf A)[i]? = some x := fun i hi => ⟨_, List.getElem?_eq_getElem (by rw [rowOf_len, ← HM.out]; exact hi)⟩
    have HMK := Lib.hid hmk
    have HRO := Lib.hid hR.out
    have hgrl : gr < wr.heap.size := by obtain ⟨x, hx⟩ := hmk 0 hmp; exact (hR.out.cell hx).2.1
    clear hR hmk
    have sz5 : v4.heap.size ≤ wr.heap.size := hbT.size
    have st5 : Below v4.heap.size v4 wr := hbT
    have c5_0 : wr.cell? ⟨v1.heap.size, 0, none⟩ = some (.slice Ha 21 Hc) := by rw [(bcell st5).1 _ _ (by omega)]; exact c4_0
    have c5_1 : wr.cell? ⟨v1.heap.size, 1, none⟩ = some (.int .i64 so) := by rw [(bcell st5).1 _ _ (by omega)]; exact c4_1
    have c5_2 : wr.cell? ⟨v2.heap.size, 0, none⟩ = some (.slice Wa 21 Wc) := by rw [(bcell st5).1 _ _ (by omega)]; exact c4_2
    have c5_3 : wr.cell? ⟨v2.heap.size, 1, none⟩ = some (.int .i64 so) := by rw [(bcell st5).1 _ _ (by omega)]; exact c4_3
    have B5 : Hid (Below w.heap.size w wr) := B4.out.trans (st5.mono (by omega))
    have R5_0 : Hid (Row 1 wr (w.heap.size) (w1.heap.size) (.slice (some ⟨ga, 0, none⟩) k rc) k A) := R4_0.out.below st5 (by omega)
    have R5_1 : Hid (Row 1 wr (w1.heap.size) (v1.heap.size) (.slice Ha 21 Hc) 21 co) := R4_1.out.below st5 (by omega)
    have R5_2 : Hid (Row 1 wr (v1.heap.size + 1) (v2.heap.size) (.slice Wa 21 Wc) 21 co) := R4_2.out.below st5 (by omega)
    have d5_0 : v1.heap.size < wr.heap.size := by omega
    have e5_0 : v1.heap.size ≠ wr.heap.size := by omega
    have d5_1 : v2.heap.size < wr.heap.size := by omega
    have e5_1 : v2.heap.size ≠ wr.heap.size := by omega
    clear d4_0 e4_0 d4_1 e4_1 c4_0 c4_1 c4_2 c4_3 B4 st5 R4_0 R4_1 R4_2 hbT
    go_upto_region 28 with fail
    go_wp2_with fail
    go_at_call 19
    refine (at_any a n cp 0 _ (HBY.out.below B5.out) hn48 (by omega)).mono ?_
    rintro e w' ⟨⟨z, rfl, z0, z1⟩, rfl⟩
    obtain ⟨p, hp⟩ : ∃ p : Int, p = z * 4 % 1001 := ⟨_, rfl⟩
    have p0 : 0 ≤ p := by omega
    have p1 : p ≤ 1000 := by omega
    go_upto_region 29 with fail
    simp only [← hp]
    clear hp z0 z1
    have hkc : cntV co so = (k : Int) := by rw [HCE.out.1, HCE.out.2, cnt_hC (by rw [← HM.out]; exact m300) HV.out.1, ← HM.out]
    obtain ⟨q0, q1, q2⟩ := qua_at (m := (k : Int)) (by omega) (by omega) p0 p1
    obtain ⟨ix, hix⟩ : ∃ ix : Nat, (ix : Int) = ((k : Int) - 1) * p / 1000 := ⟨(((k : Int) - 1) * p / 1000).toNat, by omega⟩
    have hixk : ix < k := by omega
    obtain ⟨x, hx⟩ := HMK.out ix hixk
    obtain ⟨t1, t2, t3, t4⟩ := qua_true (by rw [← HM.out]; exact m300) HV.out.1 hx
    have hqb : quaB co so p := ⟨by rw [hkc]; omega, p0, p1⟩
    have hqk : quaK co so p = bl x := by unfold quaK; rw [hkc, ← hix, HCE.out.1]; exact t1
    have hqe := qua_yes hqb
    rw [hqk, (rlo_nat t4).1, (rlo_nat t4).2] at hqe
    obtain ⟨L1, hL1⟩ : ∃ L, L = blo (bl x) := ⟨_, rfl⟩
    obtain ⟨H1, hH1⟩ : ∃ L, L = bhi (bl x) := ⟨_, rfl⟩
    rw [← hL1] at hqe t2
    rw [← hH1] at hqe t3
    have HQE := Lib.hid hqe
    have hxl : ¬ x < L1 := by omega
    have hxh : ¬ x > H1 := by omega
    have cx : wr.cell? ⟨gr, ix, none⟩ = some (.int .i64 x) := (HRO.out.cell hx).1
    have hse : I64 so := by have h := hS_in A HV.out.1; have h2 := HM.out; rw [HCE.out.2]; unfold I64; omega
    have hme : meanV co so = su / (k : Int) := by rw [HCE.out.1, HCE.out.2, mean_hC (by rw [← HM.out]; exact m300) (by rw [← HM.out]; exact hmp) HV.out.1, hSU.out, ← HM.out]
    have HME := Lib.hid hme
    have HKC := Lib.hid hkc
    have hix2 : ((k : Int) - 1) * p / 1000 = (ix : Int) := hix.symm
    clear t1 t2 t3 t4 hqb hqk hqe hL1 hH1 hme hkc hx hix HRO
    go_wp2_with fail
    go_at_call 20
    refine (iqua_any _ _ 21 _ so co _ R5_1.out (by first | omega | (simp; done) | (simp; omega)) hse p).mono ?_
    rw [HQE.out.1, HQE.out.2]
    rintro e v6 ⟨rfl, hb6⟩
    have sz6 : wr.heap.size ≤ v6.heap.size := hb6.size
    have st6 : Below wr.heap.size wr v6 := hb6
    have c6_0 : v6.cell? ⟨v1.heap.size, 0, none⟩ = some (.slice Ha 21 Hc) := by rw [(bcell st6).1 _ _ (by omega)]; exact c5_0
    have c6_1 : v6.cell? ⟨v1.heap.size, 1, none⟩ = some (.int .i64 so) := by rw [(bcell st6).1 _ _ (by omega)]; exact c5_1
    have c6_2 : v6.cell? ⟨v2.heap.size, 0, none⟩ = some (.slice Wa 21 Wc) := by rw [(bcell st6).1 _ _ (by omega)]; exact c5_2
    have c6_3 : v6.cell? ⟨v2.heap.size, 1, none⟩ = some (.int .i64 so) := by rw [(bcell st6).1 _ _ (by omega)]; exact c5_3
    have c6_4 : v6.cell? ⟨gr, ix, none⟩ = some (.int .i64 x) := by rw [(bcell st6).1 _ _ (by omega)]; exact cx
    have B6 : Hid (Below w.heap.size w v6) := B5.out.trans (st6.mono (by omega))
    have R6_0 : Hid (Row 1 v6 (w.heap.size) (w1.heap.size) (.slice (some ⟨ga, 0, none⟩) k rc) k A) := R5_0.out.below st6 (by omega)
    have R6_1 : Hid (Row 1 v6 (w1.heap.size) (v1.heap.size) (.slice Ha 21 Hc) 21 co) := R5_1.out.below st6 (by omega)
    have R6_2 : Hid (Row 1 v6 (v1.heap.size + 1) (v2.heap.size) (.slice Wa 21 Wc) 21 co) := R5_2.out.below st6 (by omega)
    have d6_0 : v1.heap.size < v6.heap.size := by omega
    have e6_0 : v1.heap.size ≠ v6.heap.size := by omega
    have d6_1 : v2.heap.size < v6.heap.size := by omega
    have e6_1 : v2.heap.size ≠ v6.heap.size := by omega
    clear d5_0 e5_0 d5_1 e5_1 c5_0 c5_1 c5_2 c5_3 cx B5 st6 R5_0 R5_1 R5_2 hb6
    go_upto_region 30 with fail
    go_upto_region 31 with fail
    have hk0 : (k : Int) ≠ 0 := by omega
    have hk1 : (1 : Int) ≤ (k : Int) := by omega
    have hdv : su.tdiv (k : Int) = su / (k : Int) := Int.tdiv_eq_ediv_of_nonneg su0
    have hd0 : 0 ≤ su / (k : Int) := Int.ediv_nonneg su0 (by omega)
    have hd1 : su / (k : Int) ≤ su := Int.ediv_le_self _ su0
    have hdw : IntKind.i64.wrap (su / (k : Int)) = su / (k : Int) := IntWalk.i64_in _ (by omega)
    have dl : decide (x < L1) = false := decide_eq_false (by omega)
    have dh : decide (x > H1) = false := decide_eq_false (by omega)
    have dh2 : decide (H1 < x) = false := decide_eq_false (by omega)
    go_region_held3 ((fun w' => w'.cell? ⟨v1.heap.size, 0, none⟩ = some (.slice Ha 21 Hc) ∧ w'.cell? ⟨v1.heap.size, 1, none⟩ = some (.int .i64 so) ∧ v6.heap.size ≤ w'.heap.size ∧ Below v6.heap.size v6 w')) (first | assumption | exact rr2_start c6_0 c6_1 | exact rr2_drew (by assumption) | exact rr2_keep (by omega) (by omega) (by assumption) (by assumption) | fail)
      (first | (go_at_call 21; refine (imean_any _ _ 21 _ so co _ (R6_1.out.below (rr2_out (by assumption)).2 (by omega)) (by have hq := (rr2_out (by assumption)).1; omega) hse).mono ?_; rw [HME.out]; rintro e wy1 ⟨rfl, hb⟩) | (go_at_call 22; refine (icnt_any _ _ 21 _ so co _ (R6_1.out.below (rr2_out (by assumption)).2 (by omega)) (by have hq := (rr2_out (by assumption)).1; omega) hse).mono ?_; rw [HKC.out]; rintro e wy2 ⟨rfl, hb⟩) | fail)
    have hbq : Below v6.heap.size v6 wy2 := (rr2_out (by assumption)).2
    have sz7 : v6.heap.size ≤ wy2.heap.size := hbq.size
    have st7 : Below v6.heap.size v6 wy2 := hbq
    have c7_0 : wy2.cell? ⟨v1.heap.size, 0, none⟩ = some (.slice Ha 21 Hc) := by rw [(bcell st7).1 _ _ (by omega)]; exact c6_0
    have c7_1 : wy2.cell? ⟨v1.heap.size, 1, none⟩ = some (.int .i64 so) := by rw [(bcell st7).1 _ _ (by omega)]; exact c6_1
    have c7_2 : wy2.cell? ⟨v2.heap.size, 0, none⟩ = some (.slice Wa 21 Wc) := by rw [(bcell st7).1 _ _ (by omega)]; exact c6_2
    have c7_3 : wy2.cell? ⟨v2.heap.size, 1, none⟩ = some (.int .i64 so) := by rw [(bcell st7).1 _ _ (by omega)]; exact c6_3
    have c7_4 : wy2.cell? ⟨gr, ix, none⟩ = some (.int .i64 x) := by rw [(bcell st7).1 _ _ (by omega)]; exact c6_4
    have B7 : Hid (Below w.heap.size w wy2) := B6.out.trans (st7.mono (by omega))
    have R7_0 : Hid (Row 1 wy2 (w.heap.size) (w1.heap.size) (.slice (some ⟨ga, 0, none⟩) k rc) k A) := R6_0.out.below st7 (by omega)
    have R7_1 : Hid (Row 1 wy2 (w1.heap.size) (v1.heap.size) (.slice Ha 21 Hc) 21 co) := R6_1.out.below st7 (by omega)
    have R7_2 : Hid (Row 1 wy2 (v1.heap.size + 1) (v2.heap.size) (.slice Wa 21 Wc) 21 co) := R6_2.out.below st7 (by omega)
    have d7_0 : v1.heap.size < wy2.heap.size := by omega
    have e7_0 : v1.heap.size ≠ wy2.heap.size := by omega
    have d7_1 : v2.heap.size < wy2.heap.size := by omega
    have e7_1 : v2.heap.size ≠ wy2.heap.size := by omega
    clear d6_0 e6_0 d6_1 e6_1 c6_0 c6_1 c6_2 c6_3 c6_4 B6 st7 R6_0 R6_1 R6_2 hbq
    clear hdv hd0 hd1 hdw hxl hxh dl dh dh2
    go_upto_region 33 with fail
    go_wp2_with fail
    go_at_call 19
    refine (at_any a n cp 1 _ (HBY.out.below B7.out) hn48 (by omega)).mono ?_
    rintro e w' ⟨⟨z2, rfl, z3, z4⟩, rfl⟩
    obtain ⟨c, hc⟩ : ∃ c : Nat, (c : Int) = z2 % ((k : Int) + 1) := ⟨(z2 % ((k : Int) + 1)).toNat, by have := Int.emod_nonneg z2 (show (k : Int) + 1 ≠ 0 by omega); omega⟩
    have hck : c ≤ k := by have := Int.emod_lt_of_pos z2 (show (0 : Int) < (k : Int) + 1 by omega); omega
    have hcr : c ≤ rc := by omega
    go_upto_region 34 with fail
    simp only [← hc]
    clear hc z3 z4
    have HTD : Hid (A.take c ++ A.drop c = A) := List.take_append_drop c A
    have hvv := HV.out.1
    rw [← HTD.out, hV_app, Bool.and_eq_true] at hvv
    have HVV := Lib.hid hvv
    have l1 : (A.take c).length = c := by rw [List.length_take, ← HM.out]; omega
    have l2 : (A.drop c).length = k - c := by rw [List.length_drop, ← HM.out]
    have b1 : hoB (A.take c) = true := by unfold hoB; rw [hvv.1, decide_eq_true (by omega)]; rfl
    have b2 : hoB (A.drop c) = true := by unfold hoB; rw [hvv.2, decide_eq_true (by omega)]; rfl
    have y1 := ho_yes b1
    have y2 := ho_yes b2
    have s1 := hS_in (A.take c) hvv.1
    have s2 := hS_in (A.drop c) hvv.2
    have hm2 := merge_all (A := A.take c) (B := A.drop c) (by rw [HTD.out, ← HM.out]; exact m300) (by rw [HTD.out]; exact HV.out.1)
    have m1 := merge_hC (A.take c) (A.drop c)
    have m2 := less_hC (A.take c) (A.drop c)
    have m3 := hS_app (A.take c) (A.drop c)
    rw [HTD.out] at hm2 m1 m2 m3
    rw [← HCE.out.1, ← HCE.out.2] at hm2
    rw [← HCE.out.1] at m1 m2
    rw [← HCE.out.2] at m3
    obtain ⟨C1, hC1⟩ : ∃ C, C = hC (A.take c) := ⟨_, rfl⟩
    obtain ⟨C2, hC2⟩ : ∃ C, C = hC (A.drop c) := ⟨_, rfl⟩
    obtain ⟨S1, hS1⟩ : ∃ C, C = hS (A.take c) := ⟨_, rfl⟩
    obtain ⟨S2, hS2⟩ : ∃ C, C = hS (A.drop c) := ⟨_, rfl⟩
    rw [← hC1] at y1 m1 m2 hm2
    rw [← hC2] at y2 m1 m2 hm2
    rw [← hS1] at y1 m3 hm2 s1
    rw [← hS2] at y2 m3 hm2 s2
    have LC1 : Hid (C1.length = 21) := by show _ = _; rw [hC1, hC_len]
    have LC2 : Hid (C2.length = 21) := by show _ = _; rw [hC2, hC_len]
    have E1 : Hid (hoB (A.take c) = true ∧ hoS (A.take c) = S1 ∧ hoC (A.take c) = C1) := ⟨b1, y1.2, y1.1⟩
    have E2 : Hid (hoB (A.drop c) = true ∧ hoS (A.drop c) = S2 ∧ hoC (A.drop c) = C2) := ⟨b2, y2.2, y2.1⟩
    have hMG := cm_yes hm2.1
    have hLS := cm_yes hm2.2
    rw [m1, Int.one_mul, ← m3] at hMG
    rw [m2, show so + -1 * S2 = S1 by omega] at hLS
    have EM : Hid (cmC C1 S1 C2 S2 1 = co ∧ cmS C1 S1 C2 S2 1 = so ∧ cmB C1 S1 C2 S2 1 = true) := ⟨hMG.1, hMG.2, hm2.1⟩
    have EL : Hid (cmC co so C2 S2 (-1) = C1 ∧ cmS co so C2 S2 (-1) = S1 ∧ cmB co so C2 S2 (-1) = true) := ⟨hLS.1, hLS.2, hm2.2⟩
    have i1 : I64 S1 := by unfold I64; omega
    have i2 : I64 S2 := by unfold I64; omega
    have HL1 := Lib.hid l1
    have HL2 := Lib.hid l2
    have AT1 : Hid (∀ q z, (A.take c)[q]? = some z → A[q]? = some z) := fun q z hz => by rw [List.getElem?_take] at hz; split at hz; exact hz; cases hz
    have AT2 : Hid (∀ q z, (A.drop c)[q]? = some z → A[c + q]? = some z) := fun q z hz => by rwa [List.getElem?_drop] at hz
    have hgw1 : ga < w1.heap.size := gah
    clear hvv l1 l2 b1 b2 y1 y2 s1 s2 hm2 m1 m2 m3 hC1 hC2 hS1 hS2 hMG hLS
    go_wp2_with fail
    go_at_call 16
    refine (iho_off _ c rc (A.take c) _ HL1.out (by omega) (fun _ => ⟨ga, 0, rfl, (by first | omega | (simp; omega)), fun q z hz => by rw [Nat.zero_add]; exact Row.cells R7_0.out q z (AT1.out q z hz)⟩)).mono ?_
    rw [E1.out.1, E1.out.2.1, E1.out.2.2, LC1.out]
    rintro e v8 ⟨vP, rfl, hr, hb8⟩
    have sz8 : wy2.heap.size ≤ v8.heap.size := hb8.size
    have st8 : Below wy2.heap.size wy2 v8 := hb8
    have c8_0 : v8.cell? ⟨v1.heap.size, 0, none⟩ = some (.slice Ha 21 Hc) := by rw [(bcell st8).1 _ _ (by omega)]; exact c7_0
    have c8_1 : v8.cell? ⟨v1.heap.size, 1, none⟩ = some (.int .i64 so) := by rw [(bcell st8).1 _ _ (by omega)]; exact c7_1
    have c8_2 : v8.cell? ⟨v2.heap.size, 0, none⟩ = some (.slice Wa 21 Wc) := by rw [(bcell st8).1 _ _ (by omega)]; exact c7_2
    have c8_3 : v8.cell? ⟨v2.heap.size, 1, none⟩ = some (.int .i64 so) := by rw [(bcell st8).1 _ _ (by omega)]; exact c7_3
    have B8 : Hid (Below w.heap.size w v8) := B7.out.trans (st8.mono (by omega))
    have R8_0 : Hid (Row 1 v8 (w.heap.size) (w1.heap.size) (.slice (some ⟨ga, 0, none⟩) k rc) k A) := R7_0.out.below st8 (by omega)
    have R8_1 : Hid (Row 1 v8 (w1.heap.size) (v1.heap.size) (.slice Ha 21 Hc) 21 co) := R7_1.out.below st8 (by omega)
    have R8_2 : Hid (Row 1 v8 (v1.heap.size + 1) (v2.heap.size) (.slice Wa 21 Wc) 21 co) := R7_2.out.below st8 (by omega)
    have R8_3 : Hid (Row 1 v8 (wy2.heap.size) (v8.heap.size) vP 21 C1) := hr
    have d8_0 : v1.heap.size < v8.heap.size := by omega
    have e8_0 : v1.heap.size ≠ v8.heap.size := by omega
    have d8_1 : v2.heap.size < v8.heap.size := by omega
    have e8_1 : v2.heap.size ≠ v8.heap.size := by omega
    clear d7_0 e7_0 d7_1 e7_1 c7_0 c7_1 c7_2 c7_3 B7 st8 R7_0 R7_1 R7_2 hr hb8
    obtain ⟨Pa, Pc, rfl⟩ := R8_3.out.slice
    go_wp2_with fail
    · go_at_call 16
      refine (iho_off _ (k - c) 0 (A.drop c) _ HL2.out (by omega) (fun h => by omega)).mono ?_
      rw [E2.out.1, E2.out.2.1, E2.out.2.2, LC2.out]
      rintro e v9 ⟨vQ, rfl, hr, hb9⟩
      have sz9 : v8.heap.size + 1 ≤ v9.heap.size := by have hh := hb9.size; simp at hh; omega
      have st9 : Below v8.heap.size v8 v9 := Below.trans (by go_grown) (hb9.mono (by simp))
      have c9_0 : v9.cell? ⟨v1.heap.size, 0, none⟩ = some (.slice Ha 21 Hc) := by rw [(bcell st9).1 _ _ (by omega)]; exact c8_0
      have c9_1 : v9.cell? ⟨v1.heap.size, 1, none⟩ = some (.int .i64 so) := by rw [(bcell st9).1 _ _ (by omega)]; exact c8_1
      have c9_2 : v9.cell? ⟨v2.heap.size, 0, none⟩ = some (.slice Wa 21 Wc) := by rw [(bcell st9).1 _ _ (by omega)]; exact c8_2
      have c9_3 : v9.cell? ⟨v2.heap.size, 1, none⟩ = some (.int .i64 so) := by rw [(bcell st9).1 _ _ (by omega)]; exact c8_3
      have c9_4 : v9.cell? ⟨v8.heap.size, 0, none⟩ = some (.slice Pa 21 Pc) := by rw [(bcell hb9).1 _ _ (by simp)]; first | (rw [new_at (by simp)]; rfl) | simp
      have c9_5 : v9.cell? ⟨v8.heap.size, 1, none⟩ = some (.int .i64 S1) := by rw [(bcell hb9).1 _ _ (by simp)]; first | (rw [new_at (by simp)]; rfl) | simp
      have B9 : Hid (Below w.heap.size w v9) := B8.out.trans (st9.mono (by omega))
      have R9_0 : Hid (Row 1 v9 (w.heap.size) (w1.heap.size) (.slice (some ⟨ga, 0, none⟩) k rc) k A) := R8_0.out.below st9 (by omega)
      have R9_1 : Hid (Row 1 v9 (w1.heap.size) (v1.heap.size) (.slice Ha 21 Hc) 21 co) := R8_1.out.below st9 (by omega)
      have R9_2 : Hid (Row 1 v9 (v1.heap.size + 1) (v2.heap.size) (.slice Wa 21 Wc) 21 co) := R8_2.out.below st9 (by omega)
      have R9_3 : Hid (Row 1 v9 (wy2.heap.size) (v8.heap.size) (.slice Pa 21 Pc) 21 C1) := R8_3.out.below st9 (by omega)
      have R9_4 : Hid (Row 1 v9 (v8.heap.size + 1) (v9.heap.size) vQ 21 C2) := hr.wide (by simp) (Nat.le_refl _)
      have d9_0 : v1.heap.size < v9.heap.size := by omega
      have e9_0 : v1.heap.size ≠ v9.heap.size := by omega
      have d9_1 : v2.heap.size < v9.heap.size := by omega
      have e9_1 : v2.heap.size ≠ v9.heap.size := by omega
      have d9_2 : v8.heap.size < v9.heap.size := by omega
      have e9_2 : v8.heap.size ≠ v9.heap.size := by omega
      clear d8_0 e8_0 d8_1 e8_1 c8_0 c8_1 c8_2 c8_3 B8 st9 R8_0 R8_1 R8_2 R8_3 hb9
      obtain ⟨Qa, Qc, rfl⟩ := R9_4.out.slice
      go_wp2_with fail
      go_at_call 23
      refine (imrg_any _ _ 21 _ _ 21 _ _ S1 S2 C1 C2 _ (R9_3.out.below (B := v9.heap.size) (by go_grown) (by omega)) (R9_4.out.below (B := v9.heap.size) (by go_grown) (by omega)) (by first | omega | (simp; done) | (simp; omega)) (by first | omega | (simp; done) | (simp; omega)) i1 i2).mono ?_
      rw [EM.out.1, EM.out.2.1, EM.out.2.2]
      rintro e v10 ⟨vM, rfl, hr, hb10⟩
      have sz10 : v9.heap.size + 1 ≤ v10.heap.size := by have hh := hb10.size; simp at hh; omega
      have st10 : Below v9.heap.size v9 v10 := Below.trans (by go_grown) (hb10.mono (by simp))
      have c10_0 : v10.cell? ⟨v1.heap.size, 0, none⟩ = some (.slice Ha 21 Hc) := by rw [(bcell st10).1 _ _ (by omega)]; exact c9_0
      have c10_1 : v10.cell? ⟨v1.heap.size, 1, none⟩ = some (.int .i64 so) := by rw [(bcell st10).1 _ _ (by omega)]; exact c9_1
      have c10_2 : v10.cell? ⟨v2.heap.size, 0, none⟩ = some (.slice Wa 21 Wc) := by rw [(bcell st10).1 _ _ (by omega)]; exact c9_2
      have c10_3 : v10.cell? ⟨v2.heap.size, 1, none⟩ = some (.int .i64 so) := by rw [(bcell st10).1 _ _ (by omega)]; exact c9_3
      have c10_4 : v10.cell? ⟨v8.heap.size, 0, none⟩ = some (.slice Pa 21 Pc) := by rw [(bcell st10).1 _ _ (by omega)]; exact c9_4
      have c10_5 : v10.cell? ⟨v8.heap.size, 1, none⟩ = some (.int .i64 S1) := by rw [(bcell st10).1 _ _ (by omega)]; exact c9_5
      have c10_6 : v10.cell? ⟨v9.heap.size, 0, none⟩ = some (.slice Qa 21 Qc) := by rw [(bcell hb10).1 _ _ (by simp)]; first | (rw [new_at (by simp)]; rfl) | simp
      have c10_7 : v10.cell? ⟨v9.heap.size, 1, none⟩ = some (.int .i64 S2) := by rw [(bcell hb10).1 _ _ (by simp)]; first | (rw [new_at (by simp)]; rfl) | simp
      have B10 : Hid (Below w.heap.size w v10) := B9.out.trans (st10.mono (by omega))
      have R10_0 : Hid (Row 1 v10 (w.heap.size) (w1.heap.size) (.slice (some ⟨ga, 0, none⟩) k rc) k A) := R9_0.out.below st10 (by omega)
      have R10_1 : Hid (Row 1 v10 (w1.heap.size) (v1.heap.size) (.slice Ha 21 Hc) 21 co) := R9_1.out.below st10 (by omega)
      have R10_2 : Hid (Row 1 v10 (v1.heap.size + 1) (v2.heap.size) (.slice Wa 21 Wc) 21 co) := R9_2.out.below st10 (by omega)
      have R10_3 : Hid (Row 1 v10 (wy2.heap.size) (v8.heap.size) (.slice Pa 21 Pc) 21 C1) := R9_3.out.below st10 (by omega)
      have R10_4 : Hid (Row 1 v10 (v8.heap.size + 1) (v9.heap.size) (.slice Qa 21 Qc) 21 C2) := R9_4.out.below st10 (by omega)
      have R10_5 : Hid (Row 1 v10 (v9.heap.size + 1) (v10.heap.size) vM 21 co) := hr.wide (by simp) (Nat.le_refl _)
      have d10_0 : v1.heap.size < v10.heap.size := by omega
      have e10_0 : v1.heap.size ≠ v10.heap.size := by omega
      have d10_1 : v2.heap.size < v10.heap.size := by omega
      have e10_1 : v2.heap.size ≠ v10.heap.size := by omega
      have d10_2 : v8.heap.size < v10.heap.size := by omega
      have e10_2 : v8.heap.size ≠ v10.heap.size := by omega
      have d10_3 : v9.heap.size < v10.heap.size := by omega
      have e10_3 : v9.heap.size ≠ v10.heap.size := by omega
      clear d9_0 e9_0 d9_1 e9_1 d9_2 e9_2 c9_0 c9_1 c9_2 c9_3 c9_4 c9_5 B9 st10 R9_0 R9_1 R9_2 R9_3 R9_4 hb10
      obtain ⟨Ma, Mc, rfl⟩ := R10_5.out.slice
      go_wp2_with fail
      go_at_call 24
      refine (iles_any _ _ 21 _ _ 21 _ _ so S2 co C2 _ (R10_1.out.below (B := v10.heap.size) (by go_grown) (by omega)) (R10_4.out.below (B := v10.heap.size) (by go_grown) (by omega)) (by first | omega | (simp; done) | (simp; omega)) (by first | omega | (simp; done) | (simp; omega)) hse i2).mono ?_
      rw [EL.out.1, EL.out.2.1, EL.out.2.2]
      rintro e v11 ⟨vN, rfl, hr, hb11⟩
      have sz11 : v10.heap.size + 1 ≤ v11.heap.size := by have hh := hb11.size; simp at hh; omega
      have st11 : Below v10.heap.size v10 v11 := Below.trans (by go_grown) (hb11.mono (by simp))
      have c11_0 : v11.cell? ⟨v1.heap.size, 0, none⟩ = some (.slice Ha 21 Hc) := by rw [(bcell st11).1 _ _ (by omega)]; exact c10_0
      have c11_1 : v11.cell? ⟨v1.heap.size, 1, none⟩ = some (.int .i64 so) := by rw [(bcell st11).1 _ _ (by omega)]; exact c10_1
      have c11_2 : v11.cell? ⟨v2.heap.size, 0, none⟩ = some (.slice Wa 21 Wc) := by rw [(bcell st11).1 _ _ (by omega)]; exact c10_2
      have c11_3 : v11.cell? ⟨v2.heap.size, 1, none⟩ = some (.int .i64 so) := by rw [(bcell st11).1 _ _ (by omega)]; exact c10_3
      have c11_4 : v11.cell? ⟨v8.heap.size, 0, none⟩ = some (.slice Pa 21 Pc) := by rw [(bcell st11).1 _ _ (by omega)]; exact c10_4
      have c11_5 : v11.cell? ⟨v8.heap.size, 1, none⟩ = some (.int .i64 S1) := by rw [(bcell st11).1 _ _ (by omega)]; exact c10_5
      have c11_6 : v11.cell? ⟨v9.heap.size, 0, none⟩ = some (.slice Qa 21 Qc) := by rw [(bcell st11).1 _ _ (by omega)]; exact c10_6
      have c11_7 : v11.cell? ⟨v9.heap.size, 1, none⟩ = some (.int .i64 S2) := by rw [(bcell st11).1 _ _ (by omega)]; exact c10_7
      have c11_8 : v11.cell? ⟨v10.heap.size, 0, none⟩ = some (.slice Ma 21 Mc) := by rw [(bcell hb11).1 _ _ (by simp)]; first | (rw [new_at (by simp)]; rfl) | simp
      have c11_9 : v11.cell? ⟨v10.heap.size, 1, none⟩ = some (.int .i64 so) := by rw [(bcell hb11).1 _ _ (by simp)]; first | (rw [new_at (by simp)]; rfl) | simp
      have B11 : Hid (Below w.heap.size w v11) := B10.out.trans (st11.mono (by omega))
      have R11_0 : Hid (Row 1 v11 (w.heap.size) (w1.heap.size) (.slice (some ⟨ga, 0, none⟩) k rc) k A) := R10_0.out.below st11 (by omega)
      have R11_1 : Hid (Row 1 v11 (w1.heap.size) (v1.heap.size) (.slice Ha 21 Hc) 21 co) := R10_1.out.below st11 (by omega)
      have R11_2 : Hid (Row 1 v11 (v1.heap.size + 1) (v2.heap.size) (.slice Wa 21 Wc) 21 co) := R10_2.out.below st11 (by omega)
      have R11_3 : Hid (Row 1 v11 (wy2.heap.size) (v8.heap.size) (.slice Pa 21 Pc) 21 C1) := R10_3.out.below st11 (by omega)
      have R11_4 : Hid (Row 1 v11 (v8.heap.size + 1) (v9.heap.size) (.slice Qa 21 Qc) 21 C2) := R10_4.out.below st11 (by omega)
      have R11_5 : Hid (Row 1 v11 (v9.heap.size + 1) (v10.heap.size) (.slice Ma 21 Mc) 21 co) := R10_5.out.below st11 (by omega)
      have R11_6 : Hid (Row 1 v11 (v10.heap.size + 1) (v11.heap.size) vN 21 C1) := hr.wide (by simp) (Nat.le_refl _)
      have d11_0 : v1.heap.size < v11.heap.size := by omega
      have e11_0 : v1.heap.size ≠ v11.heap.size := by omega
      have d11_1 : v2.heap.size < v11.heap.size := by omega
      have e11_1 : v2.heap.size ≠ v11.heap.size := by omega
      have d11_2 : v8.heap.size < v11.heap.size := by omega
      have e11_2 : v8.heap.size ≠ v11.heap.size := by omega
      have d11_3 : v9.heap.size < v11.heap.size := by omega
      have e11_3 : v9.heap.size ≠ v11.heap.size := by omega
      have d11_4 : v10.heap.size < v11.heap.size := by omega
      have e11_4 : v10.heap.size ≠ v11.heap.size := by omega
      clear d10_0 e10_0 d10_1 e10_1 d10_2 e10_2 d10_3 e10_3 c10_0 c10_1 c10_2 c10_3 c10_4 c10_5 c10_6 c10_7 B10 st11 R10_0 R10_1 R10_2 R10_3 R10_4 R10_5 hb11
      obtain ⟨Na, Nc, rfl⟩ := R11_6.out.slice
      go_upto_region 38 with fail
      obtain ⟨q12, hq12⟩ : ∃ q, q = (v11.alloc (.cells #[.slice Na 21 Nc, .int .i64 S1] 27)) := ⟨_, rfl⟩
      have hb12 : Below v11.heap.size v11 q12 := by rw [hq12]; go_grown
      have sz12 : v11.heap.size + 1 ≤ q12.heap.size := by rw [hq12]; simp
      have c12_0 : q12.cell? ⟨v1.heap.size, 0, none⟩ = some (.slice Ha 21 Hc) := by rw [(bcell hb12).1 _ _ (by omega)]; exact c11_0
      have c12_1 : q12.cell? ⟨v1.heap.size, 1, none⟩ = some (.int .i64 so) := by rw [(bcell hb12).1 _ _ (by omega)]; exact c11_1
      have c12_2 : q12.cell? ⟨v2.heap.size, 0, none⟩ = some (.slice Wa 21 Wc) := by rw [(bcell hb12).1 _ _ (by omega)]; exact c11_2
      have c12_3 : q12.cell? ⟨v2.heap.size, 1, none⟩ = some (.int .i64 so) := by rw [(bcell hb12).1 _ _ (by omega)]; exact c11_3
      have c12_4 : q12.cell? ⟨v8.heap.size, 0, none⟩ = some (.slice Pa 21 Pc) := by rw [(bcell hb12).1 _ _ (by omega)]; exact c11_4
      have c12_5 : q12.cell? ⟨v8.heap.size, 1, none⟩ = some (.int .i64 S1) := by rw [(bcell hb12).1 _ _ (by omega)]; exact c11_5
      have c12_6 : q12.cell? ⟨v9.heap.size, 0, none⟩ = some (.slice Qa 21 Qc) := by rw [(bcell hb12).1 _ _ (by omega)]; exact c11_6
      have c12_7 : q12.cell? ⟨v9.heap.size, 1, none⟩ = some (.int .i64 S2) := by rw [(bcell hb12).1 _ _ (by omega)]; exact c11_7
      have c12_8 : q12.cell? ⟨v10.heap.size, 0, none⟩ = some (.slice Ma 21 Mc) := by rw [(bcell hb12).1 _ _ (by omega)]; exact c11_8
      have c12_9 : q12.cell? ⟨v10.heap.size, 1, none⟩ = some (.int .i64 so) := by rw [(bcell hb12).1 _ _ (by omega)]; exact c11_9
      have c12_10 : q12.cell? ⟨v11.heap.size, 0, none⟩ = some (.slice Na 21 Nc) := by rw [hq12, new_at (by simp)]; rfl
      have c12_11 : q12.cell? ⟨v11.heap.size, 1, none⟩ = some (.int .i64 S1) := by rw [hq12, new_at (by simp)]; rfl
      have B12 : Hid (Below w.heap.size w q12) := Lib.hid (B11.out.trans (hb12.mono (by omega)))
      have R12_0 : Hid (Row 1 q12 (w.heap.size) (w1.heap.size) (.slice (some ⟨ga, 0, none⟩) k rc) k A) := Lib.hid (R11_0.out.below hb12 (by omega))
      have R12_1 : Hid (Row 1 q12 (w1.heap.size) (v1.heap.size) (.slice Ha 21 Hc) 21 co) := Lib.hid (R11_1.out.below hb12 (by omega))
      have R12_2 : Hid (Row 1 q12 (v1.heap.size + 1) (v2.heap.size) (.slice Wa 21 Wc) 21 co) := Lib.hid (R11_2.out.below hb12 (by omega))
      have R12_3 : Hid (Row 1 q12 (wy2.heap.size) (v8.heap.size) (.slice Pa 21 Pc) 21 C1) := Lib.hid (R11_3.out.below hb12 (by omega))
      have R12_4 : Hid (Row 1 q12 (v8.heap.size + 1) (v9.heap.size) (.slice Qa 21 Qc) 21 C2) := Lib.hid (R11_4.out.below hb12 (by omega))
      have R12_5 : Hid (Row 1 q12 (v9.heap.size + 1) (v10.heap.size) (.slice Ma 21 Mc) 21 co) := Lib.hid (R11_5.out.below hb12 (by omega))
      have R12_6 : Hid (Row 1 q12 (v10.heap.size + 1) (v11.heap.size) (.slice Na 21 Nc) 21 C1) := Lib.hid (R11_6.out.below hb12 (by omega))
      rw [← hq12]
      have d12_0 : v1.heap.size < q12.heap.size := by omega
      have e12_0 : v1.heap.size ≠ q12.heap.size := by omega
      have d12_1 : v2.heap.size < q12.heap.size := by omega
      have e12_1 : v2.heap.size ≠ q12.heap.size := by omega
      have d12_2 : v8.heap.size < q12.heap.size := by omega
      have e12_2 : v8.heap.size ≠ q12.heap.size := by omega
      have d12_3 : v9.heap.size < q12.heap.size := by omega
      have e12_3 : v9.heap.size ≠ q12.heap.size := by omega
      have d12_4 : v10.heap.size < q12.heap.size := by omega
      have e12_4 : v10.heap.size ≠ q12.heap.size := by omega
      have d12_5 : v11.heap.size < q12.heap.size := by omega
      have e12_5 : v11.heap.size ≠ q12.heap.size := by omega
      clear hq12 hb12 d11_0 e11_0 d11_1 e11_1 d11_2 e11_2 d11_3 e11_3 d11_4 e11_4 c11_0 c11_1 c11_2 c11_3 c11_4 c11_5 c11_6 c11_7 c11_8 c11_9 B11 R11_0 R11_1 R11_2 R11_3 R11_4 R11_5 R11_6
      go_wp2_with fail
      go_at_call 18
      refine (same_same co 21 _ _ _ _ _ _ _ R12_5.out R12_1.out (by first | omega | (simp; done) | (simp; omega)) (by first | omega | (simp; done) | (simp; omega))).mono ?_
      rintro e v13 ⟨rfl, hb13⟩
      have sz13 : q12.heap.size ≤ v13.heap.size := hb13.size
      have st13 : Below q12.heap.size q12 v13 := hb13
      have c13_0 : v13.cell? ⟨v1.heap.size, 0, none⟩ = some (.slice Ha 21 Hc) := by rw [(bcell st13).1 _ _ (by omega)]; exact c12_0
      have c13_1 : v13.cell? ⟨v1.heap.size, 1, none⟩ = some (.int .i64 so) := by rw [(bcell st13).1 _ _ (by omega)]; exact c12_1
      have c13_2 : v13.cell? ⟨v2.heap.size, 0, none⟩ = some (.slice Wa 21 Wc) := by rw [(bcell st13).1 _ _ (by omega)]; exact c12_2
      have c13_3 : v13.cell? ⟨v2.heap.size, 1, none⟩ = some (.int .i64 so) := by rw [(bcell st13).1 _ _ (by omega)]; exact c12_3
      have c13_4 : v13.cell? ⟨v8.heap.size, 0, none⟩ = some (.slice Pa 21 Pc) := by rw [(bcell st13).1 _ _ (by omega)]; exact c12_4
      have c13_5 : v13.cell? ⟨v8.heap.size, 1, none⟩ = some (.int .i64 S1) := by rw [(bcell st13).1 _ _ (by omega)]; exact c12_5
      have c13_6 : v13.cell? ⟨v9.heap.size, 0, none⟩ = some (.slice Qa 21 Qc) := by rw [(bcell st13).1 _ _ (by omega)]; exact c12_6
      have c13_7 : v13.cell? ⟨v9.heap.size, 1, none⟩ = some (.int .i64 S2) := by rw [(bcell st13).1 _ _ (by omega)]; exact c12_7
      have c13_8 : v13.cell? ⟨v10.heap.size, 0, none⟩ = some (.slice Ma 21 Mc) := by rw [(bcell st13).1 _ _ (by omega)]; exact c12_8
      have c13_9 : v13.cell? ⟨v10.heap.size, 1, none⟩ = some (.int .i64 so) := by rw [(bcell st13).1 _ _ (by omega)]; exact c12_9
      have c13_10 : v13.cell? ⟨v11.heap.size, 0, none⟩ = some (.slice Na 21 Nc) := by rw [(bcell st13).1 _ _ (by omega)]; exact c12_10
      have c13_11 : v13.cell? ⟨v11.heap.size, 1, none⟩ = some (.int .i64 S1) := by rw [(bcell st13).1 _ _ (by omega)]; exact c12_11
      have B13 : Hid (Below w.heap.size w v13) := B12.out.trans (st13.mono (by omega))
      have R13_0 : Hid (Row 1 v13 (w.heap.size) (w1.heap.size) (.slice (some ⟨ga, 0, none⟩) k rc) k A) := R12_0.out.below st13 (by omega)
      have R13_1 : Hid (Row 1 v13 (w1.heap.size) (v1.heap.size) (.slice Ha 21 Hc) 21 co) := R12_1.out.below st13 (by omega)
      have R13_2 : Hid (Row 1 v13 (v1.heap.size + 1) (v2.heap.size) (.slice Wa 21 Wc) 21 co) := R12_2.out.below st13 (by omega)
      have R13_3 : Hid (Row 1 v13 (wy2.heap.size) (v8.heap.size) (.slice Pa 21 Pc) 21 C1) := R12_3.out.below st13 (by omega)
      have R13_4 : Hid (Row 1 v13 (v8.heap.size + 1) (v9.heap.size) (.slice Qa 21 Qc) 21 C2) := R12_4.out.below st13 (by omega)
      have R13_5 : Hid (Row 1 v13 (v9.heap.size + 1) (v10.heap.size) (.slice Ma 21 Mc) 21 co) := R12_5.out.below st13 (by omega)
      have R13_6 : Hid (Row 1 v13 (v10.heap.size + 1) (v11.heap.size) (.slice Na 21 Nc) 21 C1) := R12_6.out.below st13 (by omega)
      have d13_0 : v1.heap.size < v13.heap.size := by omega
      have e13_0 : v1.heap.size ≠ v13.heap.size := by omega
      have d13_1 : v2.heap.size < v13.heap.size := by omega
      have e13_1 : v2.heap.size ≠ v13.heap.size := by omega
      have d13_2 : v8.heap.size < v13.heap.size := by omega
      have e13_2 : v8.heap.size ≠ v13.heap.size := by omega
      have d13_3 : v9.heap.size < v13.heap.size := by omega
      have e13_3 : v9.heap.size ≠ v13.heap.size := by omega
      have d13_4 : v10.heap.size < v13.heap.size := by omega
      have e13_4 : v10.heap.size ≠ v13.heap.size := by omega
      have d13_5 : v11.heap.size < v13.heap.size := by omega
      have e13_5 : v11.heap.size ≠ v13.heap.size := by omega
      clear d12_0 e12_0 d12_1 e12_1 d12_2 e12_2 d12_3 e12_3 d12_4 e12_4 d12_5 e12_5 c12_0 c12_1 c12_2 c12_3 c12_4 c12_5 c12_6 c12_7 c12_8 c12_9 c12_10 c12_11 B12 st13 R12_0 R12_1 R12_2 R12_3 R12_4 R12_5 R12_6 hb13
      go_wp2_with fail
      go_at_call 18
      refine (same_same C1 21 _ _ _ _ _ _ _ R13_6.out R13_3.out (by first | omega | (simp; done) | (simp; omega)) (by first | omega | (simp; done) | (simp; omega))).mono ?_
      rintro e v14 ⟨rfl, hb14⟩
      have sz14 : v13.heap.size ≤ v14.heap.size := hb14.size
      have st14 : Below v13.heap.size v13 v14 := hb14
      have c14_0 : v14.cell? ⟨v1.heap.size, 0, none⟩ = some (.slice Ha 21 Hc) := by rw [(bcell st14).1 _ _ (by omega)]; exact c13_0
      have c14_1 : v14.cell? ⟨v1.heap.size, 1, none⟩ = some (.int .i64 so) := by rw [(bcell st14).1 _ _ (by omega)]; exact c13_1
      have c14_2 : v14.cell? ⟨v2.heap.size, 0, none⟩ = some (.slice Wa 21 Wc) := by rw [(bcell st14).1 _ _ (by omega)]; exact c13_2
      have c14_3 : v14.cell? ⟨v2.heap.size, 1, none⟩ = some (.int .i64 so) := by rw [(bcell st14).1 _ _ (by omega)]; exact c13_3
      have c14_4 : v14.cell? ⟨v8.heap.size, 0, none⟩ = some (.slice Pa 21 Pc) := by rw [(bcell st14).1 _ _ (by omega)]; exact c13_4
      have c14_5 : v14.cell? ⟨v8.heap.size, 1, none⟩ = some (.int .i64 S1) := by rw [(bcell st14).1 _ _ (by omega)]; exact c13_5
      have c14_6 : v14.cell? ⟨v9.heap.size, 0, none⟩ = some (.slice Qa 21 Qc) := by rw [(bcell st14).1 _ _ (by omega)]; exact c13_6
      have c14_7 : v14.cell? ⟨v9.heap.size, 1, none⟩ = some (.int .i64 S2) := by rw [(bcell st14).1 _ _ (by omega)]; exact c13_7
      have c14_8 : v14.cell? ⟨v10.heap.size, 0, none⟩ = some (.slice Ma 21 Mc) := by rw [(bcell st14).1 _ _ (by omega)]; exact c13_8
      have c14_9 : v14.cell? ⟨v10.heap.size, 1, none⟩ = some (.int .i64 so) := by rw [(bcell st14).1 _ _ (by omega)]; exact c13_9
      have c14_10 : v14.cell? ⟨v11.heap.size, 0, none⟩ = some (.slice Na 21 Nc) := by rw [(bcell st14).1 _ _ (by omega)]; exact c13_10
      have c14_11 : v14.cell? ⟨v11.heap.size, 1, none⟩ = some (.int .i64 S1) := by rw [(bcell st14).1 _ _ (by omega)]; exact c13_11
      have B14 : Hid (Below w.heap.size w v14) := B13.out.trans (st14.mono (by omega))
      have R14_0 : Hid (Row 1 v14 (w.heap.size) (w1.heap.size) (.slice (some ⟨ga, 0, none⟩) k rc) k A) := R13_0.out.below st14 (by omega)
      have R14_1 : Hid (Row 1 v14 (w1.heap.size) (v1.heap.size) (.slice Ha 21 Hc) 21 co) := R13_1.out.below st14 (by omega)
      have R14_2 : Hid (Row 1 v14 (v1.heap.size + 1) (v2.heap.size) (.slice Wa 21 Wc) 21 co) := R13_2.out.below st14 (by omega)
      have R14_3 : Hid (Row 1 v14 (wy2.heap.size) (v8.heap.size) (.slice Pa 21 Pc) 21 C1) := R13_3.out.below st14 (by omega)
      have R14_4 : Hid (Row 1 v14 (v8.heap.size + 1) (v9.heap.size) (.slice Qa 21 Qc) 21 C2) := R13_4.out.below st14 (by omega)
      have R14_5 : Hid (Row 1 v14 (v9.heap.size + 1) (v10.heap.size) (.slice Ma 21 Mc) 21 co) := R13_5.out.below st14 (by omega)
      have R14_6 : Hid (Row 1 v14 (v10.heap.size + 1) (v11.heap.size) (.slice Na 21 Nc) 21 C1) := R13_6.out.below st14 (by omega)
      have d14_0 : v1.heap.size < v14.heap.size := by omega
      have e14_0 : v1.heap.size ≠ v14.heap.size := by omega
      have d14_1 : v2.heap.size < v14.heap.size := by omega
      have e14_1 : v2.heap.size ≠ v14.heap.size := by omega
      have d14_2 : v8.heap.size < v14.heap.size := by omega
      have e14_2 : v8.heap.size ≠ v14.heap.size := by omega
      have d14_3 : v9.heap.size < v14.heap.size := by omega
      have e14_3 : v9.heap.size ≠ v14.heap.size := by omega
      have d14_4 : v10.heap.size < v14.heap.size := by omega
      have e14_4 : v10.heap.size ≠ v14.heap.size := by omega
      have d14_5 : v11.heap.size < v14.heap.size := by omega
      have e14_5 : v11.heap.size ≠ v14.heap.size := by omega
      clear d13_0 e13_0 d13_1 e13_1 d13_2 e13_2 d13_3 e13_3 d13_4 e13_4 d13_5 e13_5 c13_0 c13_1 c13_2 c13_3 c13_4 c13_5 c13_6 c13_7 c13_8 c13_9 c13_10 c13_11 B13 st14 R13_0 R13_1 R13_2 R13_3 R13_4 R13_5 R13_6 hb14
      go_wp2_with fail
      go_ret
      exact ⟨rfl, B14.out⟩
    · go_at_call 16
      refine (iho_off _ (k - c) (rc - c) (A.drop c) _ HL2.out (by omega) (fun _ => ⟨ga, c, rfl, (by first | omega | (simp; omega)), fun q z hz => Row.cells (R8_0.out.below (B := v8.heap.size) (by go_grown) (by omega)) _ z (AT2.out q z hz)⟩)).mono ?_
      rw [E2.out.1, E2.out.2.1, E2.out.2.2, LC2.out]
      rintro e v9 ⟨vQ, rfl, hr, hb9⟩
      have sz9 : v8.heap.size + 1 ≤ v9.heap.size := by have hh := hb9.size; simp at hh; omega
      have st9 : Below v8.heap.size v8 v9 := Below.trans (by go_grown) (hb9.mono (by simp))
      have c9_0 : v9.cell? ⟨v1.heap.size, 0, none⟩ = some (.slice Ha 21 Hc) := by rw [(bcell st9).1 _ _ (by omega)]; exact c8_0
      have c9_1 : v9.cell? ⟨v1.heap.size, 1, none⟩ = some (.int .i64 so) := by rw [(bcell st9).1 _ _ (by omega)]; exact c8_1
      have c9_2 : v9.cell? ⟨v2.heap.size, 0, none⟩ = some (.slice Wa 21 Wc) := by rw [(bcell st9).1 _ _ (by omega)]; exact c8_2
      have c9_3 : v9.cell? ⟨v2.heap.size, 1, none⟩ = some (.int .i64 so) := by rw [(bcell st9).1 _ _ (by omega)]; exact c8_3
      have c9_4 : v9.cell? ⟨v8.heap.size, 0, none⟩ = some (.slice Pa 21 Pc) := by rw [(bcell hb9).1 _ _ (by simp)]; first | (rw [new_at (by simp)]; rfl) | simp
      have c9_5 : v9.cell? ⟨v8.heap.size, 1, none⟩ = some (.int .i64 S1) := by rw [(bcell hb9).1 _ _ (by simp)]; first | (rw [new_at (by simp)]; rfl) | simp
      have B9 : Hid (Below w.heap.size w v9) := B8.out.trans (st9.mono (by omega))
      have R9_0 : Hid (Row 1 v9 (w.heap.size) (w1.heap.size) (.slice (some ⟨ga, 0, none⟩) k rc) k A) := R8_0.out.below st9 (by omega)
      have R9_1 : Hid (Row 1 v9 (w1.heap.size) (v1.heap.size) (.slice Ha 21 Hc) 21 co) := R8_1.out.below st9 (by omega)
      have R9_2 : Hid (Row 1 v9 (v1.heap.size + 1) (v2.heap.size) (.slice Wa 21 Wc) 21 co) := R8_2.out.below st9 (by omega)
      have R9_3 : Hid (Row 1 v9 (wy2.heap.size) (v8.heap.size) (.slice Pa 21 Pc) 21 C1) := R8_3.out.below st9 (by omega)
      have R9_4 : Hid (Row 1 v9 (v8.heap.size + 1) (v9.heap.size) vQ 21 C2) := hr.wide (by simp) (Nat.le_refl _)
      have d9_0 : v1.heap.size < v9.heap.size := by omega
      have e9_0 : v1.heap.size ≠ v9.heap.size := by omega
      have d9_1 : v2.heap.size < v9.heap.size := by omega
      have e9_1 : v2.heap.size ≠ v9.heap.size := by omega
      have d9_2 : v8.heap.size < v9.heap.size := by omega
      have e9_2 : v8.heap.size ≠ v9.heap.size := by omega
      clear d8_0 e8_0 d8_1 e8_1 c8_0 c8_1 c8_2 c8_3 B8 st9 R8_0 R8_1 R8_2 R8_3 hb9
      obtain ⟨Qa, Qc, rfl⟩ := R9_4.out.slice
      go_wp2_with fail
      go_at_call 23
      refine (imrg_any _ _ 21 _ _ 21 _ _ S1 S2 C1 C2 _ (R9_3.out.below (B := v9.heap.size) (by go_grown) (by omega)) (R9_4.out.below (B := v9.heap.size) (by go_grown) (by omega)) (by first | omega | (simp; done) | (simp; omega)) (by first | omega | (simp; done) | (simp; omega)) i1 i2).mono ?_
      rw [EM.out.1, EM.out.2.1, EM.out.2.2]
      rintro e v10 ⟨vM, rfl, hr, hb10⟩
      have sz10 : v9.heap.size + 1 ≤ v10.heap.size := by have hh := hb10.size; simp at hh; omega
      have st10 : Below v9.heap.size v9 v10 := Below.trans (by go_grown) (hb10.mono (by simp))
      have c10_0 : v10.cell? ⟨v1.heap.size, 0, none⟩ = some (.slice Ha 21 Hc) := by rw [(bcell st10).1 _ _ (by omega)]; exact c9_0
      have c10_1 : v10.cell? ⟨v1.heap.size, 1, none⟩ = some (.int .i64 so) := by rw [(bcell st10).1 _ _ (by omega)]; exact c9_1
      have c10_2 : v10.cell? ⟨v2.heap.size, 0, none⟩ = some (.slice Wa 21 Wc) := by rw [(bcell st10).1 _ _ (by omega)]; exact c9_2
      have c10_3 : v10.cell? ⟨v2.heap.size, 1, none⟩ = some (.int .i64 so) := by rw [(bcell st10).1 _ _ (by omega)]; exact c9_3
      have c10_4 : v10.cell? ⟨v8.heap.size, 0, none⟩ = some (.slice Pa 21 Pc) := by rw [(bcell st10).1 _ _ (by omega)]; exact c9_4
      have c10_5 : v10.cell? ⟨v8.heap.size, 1, none⟩ = some (.int .i64 S1) := by rw [(bcell st10).1 _ _ (by omega)]; exact c9_5
      have c10_6 : v10.cell? ⟨v9.heap.size, 0, none⟩ = some (.slice Qa 21 Qc) := by rw [(bcell hb10).1 _ _ (by simp)]; first | (rw [new_at (by simp)]; rfl) | simp
      have c10_7 : v10.cell? ⟨v9.heap.size, 1, none⟩ = some (.int .i64 S2) := by rw [(bcell hb10).1 _ _ (by simp)]; first | (rw [new_at (by simp)]; rfl) | simp
      have B10 : Hid (Below w.heap.size w v10) := B9.out.trans (st10.mono (by omega))
      have R10_0 : Hid (Row 1 v10 (w.heap.size) (w1.heap.size) (.slice (some ⟨ga, 0, none⟩) k rc) k A) := R9_0.out.below st10 (by omega)
      have R10_1 : Hid (Row 1 v10 (w1.heap.size) (v1.heap.size) (.slice Ha 21 Hc) 21 co) := R9_1.out.below st10 (by omega)
      have R10_2 : Hid (Row 1 v10 (v1.heap.size + 1) (v2.heap.size) (.slice Wa 21 Wc) 21 co) := R9_2.out.below st10 (by omega)
      have R10_3 : Hid (Row 1 v10 (wy2.heap.size) (v8.heap.size) (.slice Pa 21 Pc) 21 C1) := R9_3.out.below st10 (by omega)
      have R10_4 : Hid (Row 1 v10 (v8.heap.size + 1) (v9.heap.size) (.slice Qa 21 Qc) 21 C2) := R9_4.out.below st10 (by omega)
      have R10_5 : Hid (Row 1 v10 (v9.heap.size + 1) (v10.heap.size) vM 21 co) := hr.wide (by simp) (Nat.le_refl _)
      have d10_0 : v1.heap.size < v10.heap.size := by omega
      have e10_0 : v1.heap.size ≠ v10.heap.size := by omega
      have d10_1 : v2.heap.size < v10.heap.size := by omega
      have e10_1 : v2.heap.size ≠ v10.heap.size := by omega
      have d10_2 : v8.heap.size < v10.heap.size := by omega
      have e10_2 : v8.heap.size ≠ v10.heap.size := by omega
      have d10_3 : v9.heap.size < v10.heap.size := by omega
      have e10_3 : v9.heap.size ≠ v10.heap.size := by omega
      clear d9_0 e9_0 d9_1 e9_1 d9_2 e9_2 c9_0 c9_1 c9_2 c9_3 c9_4 c9_5 B9 st10 R9_0 R9_1 R9_2 R9_3 R9_4 hb10
      obtain ⟨Ma, Mc, rfl⟩ := R10_5.out.slice
      go_wp2_with fail
      go_at_call 24
      refine (iles_any _ _ 21 _ _ 21 _ _ so S2 co C2 _ (R10_1.out.below (B := v10.heap.size) (by go_grown) (by omega)) (R10_4.out.below (B := v10.heap.size) (by go_grown) (by omega)) (by first | omega | (simp; done) | (simp; omega)) (by first | omega | (simp; done) | (simp; omega)) hse i2).mono ?_
      rw [EL.out.1, EL.out.2.1, EL.out.2.2]
      rintro e v11 ⟨vN, rfl, hr, hb11⟩
      have sz11 : v10.heap.size + 1 ≤ v11.heap.size := by have hh := hb11.size; simp at hh; omega
      have st11 : Below v10.heap.size v10 v11 := Below.trans (by go_grown) (hb11.mono (by simp))
      have c11_0 : v11.cell? ⟨v1.heap.size, 0, none⟩ = some (.slice Ha 21 Hc) := by rw [(bcell st11).1 _ _ (by omega)]; exact c10_0
      have c11_1 : v11.cell? ⟨v1.heap.size, 1, none⟩ = some (.int .i64 so) := by rw [(bcell st11).1 _ _ (by omega)]; exact c10_1
      have c11_2 : v11.cell? ⟨v2.heap.size, 0, none⟩ = some (.slice Wa 21 Wc) := by rw [(bcell st11).1 _ _ (by omega)]; exact c10_2
      have c11_3 : v11.cell? ⟨v2.heap.size, 1, none⟩ = some (.int .i64 so) := by rw [(bcell st11).1 _ _ (by omega)]; exact c10_3
      have c11_4 : v11.cell? ⟨v8.heap.size, 0, none⟩ = some (.slice Pa 21 Pc) := by rw [(bcell st11).1 _ _ (by omega)]; exact c10_4
      have c11_5 : v11.cell? ⟨v8.heap.size, 1, none⟩ = some (.int .i64 S1) := by rw [(bcell st11).1 _ _ (by omega)]; exact c10_5
      have c11_6 : v11.cell? ⟨v9.heap.size, 0, none⟩ = some (.slice Qa 21 Qc) := by rw [(bcell st11).1 _ _ (by omega)]; exact c10_6
      have c11_7 : v11.cell? ⟨v9.heap.size, 1, none⟩ = some (.int .i64 S2) := by rw [(bcell st11).1 _ _ (by omega)]; exact c10_7
      have c11_8 : v11.cell? ⟨v10.heap.size, 0, none⟩ = some (.slice Ma 21 Mc) := by rw [(bcell hb11).1 _ _ (by simp)]; first | (rw [new_at (by simp)]; rfl) | simp
      have c11_9 : v11.cell? ⟨v10.heap.size, 1, none⟩ = some (.int .i64 so) := by rw [(bcell hb11).1 _ _ (by simp)]; first | (rw [new_at (by simp)]; rfl) | simp
      have B11 : Hid (Below w.heap.size w v11) := B10.out.trans (st11.mono (by omega))
      have R11_0 : Hid (Row 1 v11 (w.heap.size) (w1.heap.size) (.slice (some ⟨ga, 0, none⟩) k rc) k A) := R10_0.out.below st11 (by omega)
      have R11_1 : Hid (Row 1 v11 (w1.heap.size) (v1.heap.size) (.slice Ha 21 Hc) 21 co) := R10_1.out.below st11 (by omega)
      have R11_2 : Hid (Row 1 v11 (v1.heap.size + 1) (v2.heap.size) (.slice Wa 21 Wc) 21 co) := R10_2.out.below st11 (by omega)
      have R11_3 : Hid (Row 1 v11 (wy2.heap.size) (v8.heap.size) (.slice Pa 21 Pc) 21 C1) := R10_3.out.below st11 (by omega)
      have R11_4 : Hid (Row 1 v11 (v8.heap.size + 1) (v9.heap.size) (.slice Qa 21 Qc) 21 C2) := R10_4.out.below st11 (by omega)
      have R11_5 : Hid (Row 1 v11 (v9.heap.size + 1) (v10.heap.size) (.slice Ma 21 Mc) 21 co) := R10_5.out.below st11 (by omega)
      have R11_6 : Hid (Row 1 v11 (v10.heap.size + 1) (v11.heap.size) vN 21 C1) := hr.wide (by simp) (Nat.le_refl _)
      have d11_0 : v1.heap.size < v11.heap.size := by omega
      have e11_0 : v1.heap.size ≠ v11.heap.size := by omega
      have d11_1 : v2.heap.size < v11.heap.size := by omega
      have e11_1 : v2.heap.size ≠ v11.heap.size := by omega
      have d11_2 : v8.heap.size < v11.heap.size := by omega
      have e11_2 : v8.heap.size ≠ v11.heap.size := by omega
      have d11_3 : v9.heap.size < v11.heap.size := by omega
      have e11_3 : v9.heap.size ≠ v11.heap.size := by omega
      have d11_4 : v10.heap.size < v11.heap.size := by omega
      have e11_4 : v10.heap.size ≠ v11.heap.size := by omega
      clear d10_0 e10_0 d10_1 e10_1 d10_2 e10_2 d10_3 e10_3 c10_0 c10_1 c10_2 c10_3 c10_4 c10_5 c10_6 c10_7 B10 st11 R10_0 R10_1 R10_2 R10_3 R10_4 R10_5 hb11
      obtain ⟨Na, Nc, rfl⟩ := R11_6.out.slice
      go_upto_region 38 with fail
      obtain ⟨q12, hq12⟩ : ∃ q, q = (v11.alloc (.cells #[.slice Na 21 Nc, .int .i64 S1] 27)) := ⟨_, rfl⟩
      have hb12 : Below v11.heap.size v11 q12 := by rw [hq12]; go_grown
      have sz12 : v11.heap.size + 1 ≤ q12.heap.size := by rw [hq12]; simp
      have c12_0 : q12.cell? ⟨v1.heap.size, 0, none⟩ = some (.slice Ha 21 Hc) := by rw [(bcell hb12).1 _ _ (by omega)]; exact c11_0
      have c12_1 : q12.cell? ⟨v1.heap.size, 1, none⟩ = some (.int .i64 so) := by rw [(bcell hb12).1 _ _ (by omega)]; exact c11_1
      have c12_2 : q12.cell? ⟨v2.heap.size, 0, none⟩ = some (.slice Wa 21 Wc) := by rw [(bcell hb12).1 _ _ (by omega)]; exact c11_2
      have c12_3 : q12.cell? ⟨v2.heap.size, 1, none⟩ = some (.int .i64 so) := by rw [(bcell hb12).1 _ _ (by omega)]; exact c11_3
      have c12_4 : q12.cell? ⟨v8.heap.size, 0, none⟩ = some (.slice Pa 21 Pc) := by rw [(bcell hb12).1 _ _ (by omega)]; exact c11_4
      have c12_5 : q12.cell? ⟨v8.heap.size, 1, none⟩ = some (.int .i64 S1) := by rw [(bcell hb12).1 _ _ (by omega)]; exact c11_5
      have c12_6 : q12.cell? ⟨v9.heap.size, 0, none⟩ = some (.slice Qa 21 Qc) := by rw [(bcell hb12).1 _ _ (by omega)]; exact c11_6
      have c12_7 : q12.cell? ⟨v9.heap.size, 1, none⟩ = some (.int .i64 S2) := by rw [(bcell hb12).1 _ _ (by omega)]; exact c11_7
      have c12_8 : q12.cell? ⟨v10.heap.size, 0, none⟩ = some (.slice Ma 21 Mc) := by rw [(bcell hb12).1 _ _ (by omega)]; exact c11_8
      have c12_9 : q12.cell? ⟨v10.heap.size, 1, none⟩ = some (.int .i64 so) := by rw [(bcell hb12).1 _ _ (by omega)]; exact c11_9
      have c12_10 : q12.cell? ⟨v11.heap.size, 0, none⟩ = some (.slice Na 21 Nc) := by rw [hq12, new_at (by simp)]; rfl
      have c12_11 : q12.cell? ⟨v11.heap.size, 1, none⟩ = some (.int .i64 S1) := by rw [hq12, new_at (by simp)]; rfl
      have B12 : Hid (Below w.heap.size w q12) := Lib.hid (B11.out.trans (hb12.mono (by omega)))
      have R12_0 : Hid (Row 1 q12 (w.heap.size) (w1.heap.size) (.slice (some ⟨ga, 0, none⟩) k rc) k A) := Lib.hid (R11_0.out.below hb12 (by omega))
      have R12_1 : Hid (Row 1 q12 (w1.heap.size) (v1.heap.size) (.slice Ha 21 Hc) 21 co) := Lib.hid (R11_1.out.below hb12 (by omega))
      have R12_2 : Hid (Row 1 q12 (v1.heap.size + 1) (v2.heap.size) (.slice Wa 21 Wc) 21 co) := Lib.hid (R11_2.out.below hb12 (by omega))
      have R12_3 : Hid (Row 1 q12 (wy2.heap.size) (v8.heap.size) (.slice Pa 21 Pc) 21 C1) := Lib.hid (R11_3.out.below hb12 (by omega))
      have R12_4 : Hid (Row 1 q12 (v8.heap.size + 1) (v9.heap.size) (.slice Qa 21 Qc) 21 C2) := Lib.hid (R11_4.out.below hb12 (by omega))
      have R12_5 : Hid (Row 1 q12 (v9.heap.size + 1) (v10.heap.size) (.slice Ma 21 Mc) 21 co) := Lib.hid (R11_5.out.below hb12 (by omega))
      have R12_6 : Hid (Row 1 q12 (v10.heap.size + 1) (v11.heap.size) (.slice Na 21 Nc) 21 C1) := Lib.hid (R11_6.out.below hb12 (by omega))
      rw [← hq12]
      have d12_0 : v1.heap.size < q12.heap.size := by omega
      have e12_0 : v1.heap.size ≠ q12.heap.size := by omega
      have d12_1 : v2.heap.size < q12.heap.size := by omega
      have e12_1 : v2.heap.size ≠ q12.heap.size := by omega
      have d12_2 : v8.heap.size < q12.heap.size := by omega
      have e12_2 : v8.heap.size ≠ q12.heap.size := by omega
      have d12_3 : v9.heap.size < q12.heap.size := by omega
      have e12_3 : v9.heap.size ≠ q12.heap.size := by omega
      have d12_4 : v10.heap.size < q12.heap.size := by omega
      have e12_4 : v10.heap.size ≠ q12.heap.size := by omega
      have d12_5 : v11.heap.size < q12.heap.size := by omega
      have e12_5 : v11.heap.size ≠ q12.heap.size := by omega
      clear hq12 hb12 d11_0 e11_0 d11_1 e11_1 d11_2 e11_2 d11_3 e11_3 d11_4 e11_4 c11_0 c11_1 c11_2 c11_3 c11_4 c11_5 c11_6 c11_7 c11_8 c11_9 B11 R11_0 R11_1 R11_2 R11_3 R11_4 R11_5 R11_6
      go_wp2_with fail
      go_at_call 18
      refine (same_same co 21 _ _ _ _ _ _ _ R12_5.out R12_1.out (by first | omega | (simp; done) | (simp; omega)) (by first | omega | (simp; done) | (simp; omega))).mono ?_
      rintro e v13 ⟨rfl, hb13⟩
      have sz13 : q12.heap.size ≤ v13.heap.size := hb13.size
      have st13 : Below q12.heap.size q12 v13 := hb13
      have c13_0 : v13.cell? ⟨v1.heap.size, 0, none⟩ = some (.slice Ha 21 Hc) := by rw [(bcell st13).1 _ _ (by omega)]; exact c12_0
      have c13_1 : v13.cell? ⟨v1.heap.size, 1, none⟩ = some (.int .i64 so) := by rw [(bcell st13).1 _ _ (by omega)]; exact c12_1
      have c13_2 : v13.cell? ⟨v2.heap.size, 0, none⟩ = some (.slice Wa 21 Wc) := by rw [(bcell st13).1 _ _ (by omega)]; exact c12_2
      have c13_3 : v13.cell? ⟨v2.heap.size, 1, none⟩ = some (.int .i64 so) := by rw [(bcell st13).1 _ _ (by omega)]; exact c12_3
      have c13_4 : v13.cell? ⟨v8.heap.size, 0, none⟩ = some (.slice Pa 21 Pc) := by rw [(bcell st13).1 _ _ (by omega)]; exact c12_4
      have c13_5 : v13.cell? ⟨v8.heap.size, 1, none⟩ = some (.int .i64 S1) := by rw [(bcell st13).1 _ _ (by omega)]; exact c12_5
      have c13_6 : v13.cell? ⟨v9.heap.size, 0, none⟩ = some (.slice Qa 21 Qc) := by rw [(bcell st13).1 _ _ (by omega)]; exact c12_6
      have c13_7 : v13.cell? ⟨v9.heap.size, 1, none⟩ = some (.int .i64 S2) := by rw [(bcell st13).1 _ _ (by omega)]; exact c12_7
      have c13_8 : v13.cell? ⟨v10.heap.size, 0, none⟩ = some (.slice Ma 21 Mc) := by rw [(bcell st13).1 _ _ (by omega)]; exact c12_8
      have c13_9 : v13.cell? ⟨v10.heap.size, 1, none⟩ = some (.int .i64 so) := by rw [(bcell st13).1 _ _ (by omega)]; exact c12_9
      have c13_10 : v13.cell? ⟨v11.heap.size, 0, none⟩ = some (.slice Na 21 Nc) := by rw [(bcell st13).1 _ _ (by omega)]; exact c12_10
      have c13_11 : v13.cell? ⟨v11.heap.size, 1, none⟩ = some (.int .i64 S1) := by rw [(bcell st13).1 _ _ (by omega)]; exact c12_11
      have B13 : Hid (Below w.heap.size w v13) := B12.out.trans (st13.mono (by omega))
      have R13_0 : Hid (Row 1 v13 (w.heap.size) (w1.heap.size) (.slice (some ⟨ga, 0, none⟩) k rc) k A) := R12_0.out.below st13 (by omega)
      have R13_1 : Hid (Row 1 v13 (w1.heap.size) (v1.heap.size) (.slice Ha 21 Hc) 21 co) := R12_1.out.below st13 (by omega)
      have R13_2 : Hid (Row 1 v13 (v1.heap.size + 1) (v2.heap.size) (.slice Wa 21 Wc) 21 co) := R12_2.out.below st13 (by omega)
      have R13_3 : Hid (Row 1 v13 (wy2.heap.size) (v8.heap.size) (.slice Pa 21 Pc) 21 C1) := R12_3.out.below st13 (by omega)
      have R13_4 : Hid (Row 1 v13 (v8.heap.size + 1) (v9.heap.size) (.slice Qa 21 Qc) 21 C2) := R12_4.out.below st13 (by omega)
      have R13_5 : Hid (Row 1 v13 (v9.heap.size + 1) (v10.heap.size) (.slice Ma 21 Mc) 21 co) := R12_5.out.below st13 (by omega)
      have R13_6 : Hid (Row 1 v13 (v10.heap.size + 1) (v11.heap.size) (.slice Na 21 Nc) 21 C1) := R12_6.out.below st13 (by omega)
      have d13_0 : v1.heap.size < v13.heap.size := by omega
      have e13_0 : v1.heap.size ≠ v13.heap.size := by omega
      have d13_1 : v2.heap.size < v13.heap.size := by omega
      have e13_1 : v2.heap.size ≠ v13.heap.size := by omega
      have d13_2 : v8.heap.size < v13.heap.size := by omega
      have e13_2 : v8.heap.size ≠ v13.heap.size := by omega
      have d13_3 : v9.heap.size < v13.heap.size := by omega
      have e13_3 : v9.heap.size ≠ v13.heap.size := by omega
      have d13_4 : v10.heap.size < v13.heap.size := by omega
      have e13_4 : v10.heap.size ≠ v13.heap.size := by omega
      have d13_5 : v11.heap.size < v13.heap.size := by omega
      have e13_5 : v11.heap.size ≠ v13.heap.size := by omega
      clear d12_0 e12_0 d12_1 e12_1 d12_2 e12_2 d12_3 e12_3 d12_4 e12_4 d12_5 e12_5 c12_0 c12_1 c12_2 c12_3 c12_4 c12_5 c12_6 c12_7 c12_8 c12_9 c12_10 c12_11 B12 st13 R12_0 R12_1 R12_2 R12_3 R12_4 R12_5 R12_6 hb13
      go_wp2_with fail
      go_at_call 18
      refine (same_same C1 21 _ _ _ _ _ _ _ R13_6.out R13_3.out (by first | omega | (simp; done) | (simp; omega)) (by first | omega | (simp; done) | (simp; omega))).mono ?_
      rintro e v14 ⟨rfl, hb14⟩
      have sz14 : v13.heap.size ≤ v14.heap.size := hb14.size
      have st14 : Below v13.heap.size v13 v14 := hb14
      have c14_0 : v14.cell? ⟨v1.heap.size, 0, none⟩ = some (.slice Ha 21 Hc) := by rw [(bcell st14).1 _ _ (by omega)]; exact c13_0
      have c14_1 : v14.cell? ⟨v1.heap.size, 1, none⟩ = some (.int .i64 so) := by rw [(bcell st14).1 _ _ (by omega)]; exact c13_1
      have c14_2 : v14.cell? ⟨v2.heap.size, 0, none⟩ = some (.slice Wa 21 Wc) := by rw [(bcell st14).1 _ _ (by omega)]; exact c13_2
      have c14_3 : v14.cell? ⟨v2.heap.size, 1, none⟩ = some (.int .i64 so) := by rw [(bcell st14).1 _ _ (by omega)]; exact c13_3
      have c14_4 : v14.cell? ⟨v8.heap.size, 0, none⟩ = some (.slice Pa 21 Pc) := by rw [(bcell st14).1 _ _ (by omega)]; exact c13_4
      have c14_5 : v14.cell? ⟨v8.heap.size, 1, none⟩ = some (.int .i64 S1) := by rw [(bcell st14).1 _ _ (by omega)]; exact c13_5
      have c14_6 : v14.cell? ⟨v9.heap.size, 0, none⟩ = some (.slice Qa 21 Qc) := by rw [(bcell st14).1 _ _ (by omega)]; exact c13_6
      have c14_7 : v14.cell? ⟨v9.heap.size, 1, none⟩ = some (.int .i64 S2) := by rw [(bcell st14).1 _ _ (by omega)]; exact c13_7
      have c14_8 : v14.cell? ⟨v10.heap.size, 0, none⟩ = some (.slice Ma 21 Mc) := by rw [(bcell st14).1 _ _ (by omega)]; exact c13_8
      have c14_9 : v14.cell? ⟨v10.heap.size, 1, none⟩ = some (.int .i64 so) := by rw [(bcell st14).1 _ _ (by omega)]; exact c13_9
      have c14_10 : v14.cell? ⟨v11.heap.size, 0, none⟩ = some (.slice Na 21 Nc) := by rw [(bcell st14).1 _ _ (by omega)]; exact c13_10
      have c14_11 : v14.cell? ⟨v11.heap.size, 1, none⟩ = some (.int .i64 S1) := by rw [(bcell st14).1 _ _ (by omega)]; exact c13_11
      have B14 : Hid (Below w.heap.size w v14) := B13.out.trans (st14.mono (by omega))
      have R14_0 : Hid (Row 1 v14 (w.heap.size) (w1.heap.size) (.slice (some ⟨ga, 0, none⟩) k rc) k A) := R13_0.out.below st14 (by omega)
      have R14_1 : Hid (Row 1 v14 (w1.heap.size) (v1.heap.size) (.slice Ha 21 Hc) 21 co) := R13_1.out.below st14 (by omega)
      have R14_2 : Hid (Row 1 v14 (v1.heap.size + 1) (v2.heap.size) (.slice Wa 21 Wc) 21 co) := R13_2.out.below st14 (by omega)
      have R14_3 : Hid (Row 1 v14 (wy2.heap.size) (v8.heap.size) (.slice Pa 21 Pc) 21 C1) := R13_3.out.below st14 (by omega)
      have R14_4 : Hid (Row 1 v14 (v8.heap.size + 1) (v9.heap.size) (.slice Qa 21 Qc) 21 C2) := R13_4.out.below st14 (by omega)
      have R14_5 : Hid (Row 1 v14 (v9.heap.size + 1) (v10.heap.size) (.slice Ma 21 Mc) 21 co) := R13_5.out.below st14 (by omega)
      have R14_6 : Hid (Row 1 v14 (v10.heap.size + 1) (v11.heap.size) (.slice Na 21 Nc) 21 C1) := R13_6.out.below st14 (by omega)
      have d14_0 : v1.heap.size < v14.heap.size := by omega
      have e14_0 : v1.heap.size ≠ v14.heap.size := by omega
      have d14_1 : v2.heap.size < v14.heap.size := by omega
      have e14_1 : v2.heap.size ≠ v14.heap.size := by omega
      have d14_2 : v8.heap.size < v14.heap.size := by omega
      have e14_2 : v8.heap.size ≠ v14.heap.size := by omega
      have d14_3 : v9.heap.size < v14.heap.size := by omega
      have e14_3 : v9.heap.size ≠ v14.heap.size := by omega
      have d14_4 : v10.heap.size < v14.heap.size := by omega
      have e14_4 : v10.heap.size ≠ v14.heap.size := by omega
      have d14_5 : v11.heap.size < v14.heap.size := by omega
      have e14_5 : v11.heap.size ≠ v14.heap.size := by omega
      clear d13_0 e13_0 d13_1 e13_1 d13_2 e13_2 d13_3 e13_3 d13_4 e13_4 d13_5 e13_5 c13_0 c13_1 c13_2 c13_3 c13_4 c13_5 c13_6 c13_7 c13_8 c13_9 c13_10 c13_11 B13 st14 R13_0 R13_1 R13_2 R13_3 R13_4 R13_5 R13_6 hb14
      go_wp2_with fail
      go_ret
      exact ⟨rfl, B14.out⟩


end Go.Proofs.Ytcchoiobdcaboaa
