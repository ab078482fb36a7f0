/- The program's iterator over the last steps of all shortest paths, as a contract. -/
import Derived.Shelf.Abstract
import Derived.Shelf.RegionOpen
import Derived.WalkKit
import Derived.OwnWalkIn
import Derived.TacticsInMore
import Derived.LoopNIn
import Derived.LoopIn
import Derived.Test.YtkkfgnnhdcmmjaaKa
import Derived.Test.YtkkfgnnhdcmmjaaHy
import Derived.Test.YtkkfgnnhdcmmjaaWi
namespace Go.Proofs.Ytkkfgnnhdcmmjaa
open Go.RowKit Go.Shelf
attribute [local go_sem] Oper.semAt_some

theorem ItM.start {w : World} {B B2 bc tc : Nat} {ta : Option Addr} {L : List Ed} {P : List TV} (hbc : w.heap[bc]? = some (.cells (tabOf L) 94 (0, 0))) (h1 : B ≤ bc) (h2 : B ≤ B2) (hown : w.ownsRow B2 64 2 (.slice ta P.length tc) P.length (pcs P)) (hN : ∀ x ∈ P, NAt w x ∧ B2 ≤ x.g) :
    ∃ g, (0 < P.length → ta = some ⟨g, 0, none⟩ ∧ P.length ≤ tc) ∧ ItM w B bc g L P := by
  have hcs : ∀ x y : Nat, x < 10 → y < 10 → w.cell? ⟨bc, x * 10 + y, none⟩ = some (.int .i64 (cst L x y)) := fun x y hx hy => tab_cell (x := (x : Int)) (y := (y : Int)) hbc (by omega) (by omega)
  have hla : ∀ (k : Nat) (t : TV), P[k]? = some t → B ≤ t.g ∧ 0 < t.ns.length ∧ t.ns.length ≤ 1000 ∧ w.cell? ⟨t.g, t.ns.length - 1, none⟩ = some (.int .i64 (lastN t.key)) := fun k t ht => by
    obtain ⟨hn, hb⟩ := hN t (List.mem_of_getElem? ht)
    exact ⟨by omega, hn.1, hn.2.1, hn.2.2.2.at_ _ _ (last_at (by have := hn.1; omega))⟩
  by_cases hp : 0 < P.length
  · obtain ⟨g, cap, hv, hb, hlt⟩ := hown.form hp
    cases hv
    have hcap : P.length ≤ tc := by
      rcases hown.2 with ⟨hv, _⟩ | ⟨g', cap', cur, hv, _, _, hc, _⟩
      · cases hv
      · cases hv; exact hc
    refine ⟨g, fun _ => ⟨rfl, hcap⟩, ⟨h1, by omega⟩, hcs, fun k t ht => ?_, hla⟩
    have hk : k < P.length := (List.getElem?_eq_some_iff.1 ht).1
    obtain ⟨p0, p1⟩ := pcs_at P ht
    exact ⟨by rw [hown.cellAt _ (by omega)]; exact p0, by rw [hown.cellAt _ (by omega)]; exact p1⟩
  · refine ⟨B, fun h => absurd h hp, ⟨h1, Nat.le_refl _⟩, hcs, fun k t ht => ?_, hla⟩
    have hk : k < P.length := (List.getElem?_eq_some_iff.1 ht).1
    omega

set_option maxRecDepth 100000 in
set_option maxHeartbeats 4000000 in
theorem steps_in (N s : Int) (lo hi n : Nat) (v : Value) (L : List Ed) (bg bf l : Nat) (X : Nat → Prop) (J Jx : List Pr → World → Prop) (W : World) (hG : gok N L = true) (hL : L.length = n) (hr : Row 3 W lo hi v n (flat L)) (hh : hi ≤ W.heap.size) (hs : 0 ≤ s ∧ s < N)
    (hg0 : W.cell? ⟨bg, 0, none⟩ = some (.int .i64 N)) (hg1 : W.cell? ⟨bg, 1, none⟩ = some v) (hf0 : W.cell? ⟨bf, 0, none⟩ = some (.int .i64 s)) (hX : ∀ k, X k → k < W.heap.size)
    (hJ : AbidesFrom W.heap.size J)
    (hY : ∀ pre x W1, J pre W1 → pre.length < 100 → YieldAt Fence.wide (3 - 1) Try.prog l (encP x) W1 fun e W' =>
      (e = .returned (.bool true) ∧ J (pre ++ [x]) W' ∧ KpX X W1 W') ∨ (e = .returned (.bool false) ∧ Jx (pre ++ [x]) W')) (h0 : J [] W) :
    CallsIn Fence.wide 3 Try.prog 81 #[.func (.yield l) #[] #[], .pointer (some ⟨bg, 0, none⟩), .pointer (some ⟨bf, 0, none⟩)] W fun e W' => (∃ r, e = .returned r) ∧
      ((∃ xs, (∃ P : List Tr, Found L s P ∧ P.length ≤ 10 ∧ xs.map Subtype.val = prs L P) ∧ J xs W') ∨ (∃ pre, True ∧ Jx pre W')) := by
  have HR := Lib.hid hr
  have HG := Lib.hid hG
  have HJ := Lib.hid hJ
  have HY := Lib.hid hY
  have HX := Lib.hid hX
  have hN1 := (gok_parts hG).1
  have hN2 := (gok_parts hG).2.1
  have H0 := Lib.hid h0
  have hbg := blk_lt hg0
  have hbf := blk_lt hf0
  simp only at hbg hbf
  obtain ⟨ad, cp, rfl⟩ := hr.slice
  clear hr hJ hY h0 hX
  refine callsIn_of_wp Try.func81 rfl trivial ?_ rfl
  simp only [Try.ntmps81, List.size_toArray, List.length_cons, List.length_nil, Nat.reduceAdd, Nat.reduceSub, Array.replicate_succ, Array.replicate_zero, List.push_toArray, List.append_toArray, List.nil_append, List.cons_append]
  gi_wp2_with fail
  refine ⟨trivial, ?_⟩
  gi_at_call 75
  refine CallsIn.mono (callsIn_wide.2 (costs_any N lo hi n _ L _ HG.out hL HR.out (by omega))) ?_
  rintro e v1 ⟨rfl, hb1⟩
  have J1 := Lib.hid (AbidesFrom.below HJ.out H0.out hb1)
  have B1 : Hid (Below W.heap.size W v1) := hb1
  have s1 := hb1.size
  clear hb1 H0
  obtain ⟨w2, hw2⟩ : ∃ q, q = ((v1.alloc (.cells Try.zeroCells94 94)).setRow v1.heap.size (tabOf L)) := ⟨_, rfl⟩
  obtain ⟨hbW, hsW, htW⟩ := tab_laid v1 L hw2
  have J2 := Lib.hid (AbidesFrom.below HJ.out J1.out hbW)
  have B2 : Hid (Below W.heap.size W w2) := B1.out.trans (hbW.mono s1)
  have HtW := Lib.hid htW
  have HsW := Lib.hid hsW
  have g0 : w2.cell? ⟨bg, 0, none⟩ = some (.int .i64 N) := (B2.out.cell (p := ⟨bg, 0, none⟩) hbg).trans hg0
  have g1 : w2.cell? ⟨bg, 1, none⟩ = some (.slice ad n cp) := (B2.out.cell (p := ⟨bg, 1, none⟩) hbg).trans hg1
  have f0 : w2.cell? ⟨bf, 0, none⟩ = some (.int .i64 s) := (B2.out.cell (p := ⟨bf, 0, none⟩) hbf).trans hf0
  have R2 := Lib.hid (HR.out.below B2.out hh)
  have Hw2 := Lib.hid hw2
  clear hw2 hbW htW hsW J1 B1 HR hg0 hg1 hf0
  gi_wp2_with (first | (refine storeIn_row rfl 94 _ _ rfl rfl v1.heap.size (tabOf L) rfl rfl 94 Try.zeroCells94 (heap_alloc_new _ _) (by rw [Try.size94, tabOf, tabA_size]) (by rw [tabA_zero, tabOf, tabA_size, tabA_size]) (tabA_one _) ?_; rw [← Hw2.out]))
  clear Hw2
  have hsW := HsW.out
  have hh2 : hi ≤ w2.heap.size := by omega
  obtain ⟨bc, hbc⟩ : ∃ q, q = v1.heap.size := ⟨_, rfl⟩
  rw [← hbc] at HtW hsW ⊢
  have hbc1 : W.heap.size ≤ bc := by omega
  have hbc2 : bc < w2.heap.size := by omega
  clear hbc s1 hsW HsW
  refine ⟨trivial, ?_⟩
  gi_at_call 56
  refine CallsIn.mono (callsIn_wide.2 (trails_any N s lo hi n _ L _ HG.out hL R2.out hh2 hs)) ?_
  rintro e w3 ⟨P, vt, rfl, hF, hPl, hown, hN, hb3⟩
  have J3 := Lib.hid (AbidesFrom.below HJ.out J2.out hb3)
  have HF := Lib.hid hF
  obtain ⟨ta, tc, ht⟩ := own_slice hown
  subst ht
  have hs3 := hb3.size
  have B3 : Hid (Below W.heap.size W w3) := B2.out.trans (hb3.mono (by omega))
  have HtW3 : Hid (w3.heap[bc]? = some (.cells (tabOf L) 94 (0, 0))) := by show _ = _; rw [hb3.block _ hbc2]; exact HtW.out
  have HI := Lib.hid (ItM.start (B := W.heap.size) HtW3.out hbc1 (by omega) hown hN)
  clear hF hown hN hb3 J2 B2 HtW R2 g0 g1 f0 hs3 HtW3 B3
  obtain ⟨g, hta, hI⟩ := HI.out
  have Hta := Lib.hid hta
  have H3 : Hid (∃ pre : List Pr, pre.map Subtype.val = prsK L (P.map TV.key) 0 ∧ J pre w3 ∧ ItM w3 W.heap.size bc g L P) := ⟨[], rfl, J3.out, hI⟩
  clear hta hI HI J3
  gi_wp2_with fail
  gi_loopw [17] (fun i wr => ∃ k : Nat, k ≤ P.length ∧ i = .int .i64 (k : Int) ∧ Hid (∃ pre : List Pr, pre.map Subtype.val = prsK L (P.map TV.key) k ∧ J pre wr ∧ ItM wr W.heap.size bc g L P)) (fun i _ => P.length - (intOf i).toNat)
  case atStart => exact ⟨0, Nat.zero_le _, rfl, H3⟩
  case round =>
    obtain ⟨wo, rfl⟩ : ∃ x, x = wr := ⟨_, rfl⟩
    obtain ⟨k, hk, rfl, hS⟩ := hrel
    by_cases hlt : k < P.length
    · obtain ⟨rfl, htc⟩ := Hta.out (by omega)
      obtain ⟨t, htk⟩ : ∃ t, P[k]? = some t := ⟨P[k], List.getElem?_eq_getElem _⟩
      obtain ⟨pre0, hp0, hj0, hi0⟩ := hS.out
      obtain ⟨z0, z1⟩ := hi0.tr k t htk
      obtain ⟨htg, htl, htl2, htz⟩ := hi0.la k t htk
      obtain ⟨lt, hlt2⟩ : ∃ l, t.ns.length = l + 1 := ⟨t.ns.length - 1, by omega⟩
      rw [hlt2] at z1 htz
      obtain ⟨bt, hbt⟩ : ∃ q, q = wo.heap.size := ⟨_, rfl⟩
      obtain ⟨wt, hwt⟩ : ∃ q, q = wo.alloc (.cells #[.int .i64 t.c, .slice (some ⟨t.g, 0, none⟩) (lt + 1) t.cap] 64) := ⟨_, rfl⟩
      have hbw : Below wo.heap.size wo wt := by rw [hwt]; exact (Below.refl _ _).alloc (Nat.le_refl _) _
      have H4 : Hid (∃ pre : List Pr, pre.map Subtype.val = prsK L (P.map TV.key) k ++ rowS L t.key ((P.map TV.key).take 0) ∧ J pre wt ∧ ItM wt W.heap.size bc g L P ∧ wt.cell? ⟨bt, 0, none⟩ = some (.int .i64 t.c) ∧ wt.cell? ⟨bt, 1, none⟩ = some (.slice (some ⟨t.g, 0, none⟩) (lt + 1) t.cap)) :=
        ⟨pre0, by rw [hp0]; simp [rowS], AbidesFrom.below HJ.out hj0 hbw, hi0.below hbw, by rw [hwt, hbt, newAt rfl]; rfl, by rw [hwt, hbt, newAt rfl]; rfl⟩
      have Hwt := Lib.hid hwt
      have q0 : (0 : Int) ≤ (k : Int) := by omega
      have q1 : (k : Int) < (P.length : Int) := by omega
      have q2 : (k : Int) ≤ (tc : Int) := by omega
      have Htk := Lib.hid htk
      have Hlt2 := Lib.hid hlt2
      have hszB : W.heap.size ≤ wo.heap.size := by have := blk_lt z0; have := hi0.lo.2; simp only at *; omega
      clear hp0 hj0 hi0 hwt hbw hS htz htk hlt2
      gi_wp2_with fail
      rw [← Hwt.out, ← hbt]
      have hbt1 : W.heap.size ≤ bt := by omega
      clear Hwt z0 z1 hbt
      gi_loopw [26] (fun j wi => ∃ m : Nat, m ≤ k ∧ j = .int .i64 (m : Int) ∧ Hid (∃ pre : List Pr, pre.map Subtype.val = prsK L (P.map TV.key) k ++ rowS L t.key ((P.map TV.key).take m) ∧ J pre wi ∧ ItM wi W.heap.size bc g L P ∧ wi.cell? ⟨bt, 0, none⟩ = some (.int .i64 t.c) ∧ wi.cell? ⟨bt, 1, none⟩ = some (.slice (some ⟨t.g, 0, none⟩) (lt + 1) t.cap))) (fun j _ => k - (intOf j).toNat)
      case atStart => exact ⟨0, Nat.zero_le _, rfl, H4⟩
      case round =>
        obtain ⟨wi, rfl⟩ : ∃ x, x = wr := ⟨_, rfl⟩
        obtain ⟨m, hm, rfl, hS⟩ := hrel
        by_cases hml : m < k
        · obtain ⟨u, huk⟩ : ∃ u, P[m]? = some u := ⟨P[m], List.getElem?_eq_getElem _⟩
          obtain ⟨pre, hp, hj, hi, ht0, ht1⟩ := hS.out
          obtain ⟨z0, z1⟩ := hi.tr m u huk
          obtain ⟨hug, hul, hul2, huz⟩ := hi.la m u huk
          obtain ⟨_, _, _, htz⟩ := hi.la k t Htk.out
          obtain ⟨lu, hlu⟩ : ∃ l, u.ns.length = l + 1 := ⟨u.ns.length - 1, by omega⟩
          rw [hlu] at z1 huz
          rw [Hlt2.out] at htz
          have hmu : u.key ∈ P.map TV.key := List.mem_map.2 ⟨u, List.mem_of_getElem? huk, rfl⟩
          have hmt : t.key ∈ P.map TV.key := List.mem_map.2 ⟨t, List.mem_of_getElem? Htk.out, rfl⟩
          have hnu := HF.out.node HG.out hs hmu
          have hnt := HF.out.node HG.out hs hmt
          have hcu := HF.out.cost HG.out hs hmu
          obtain ⟨xu, hxu⟩ : ∃ q : Nat, lastN u.key = (q : Int) := ⟨(lastN u.key).toNat, by omega⟩
          obtain ⟨xt, hxt⟩ : ∃ q : Nat, lastN t.key = (q : Int) := ⟨(lastN t.key).toNat, by omega⟩
          rw [hxu] at hnu huz
          rw [hxt] at hnt htz
          have zc := hi.cs xu xt (by omega) (by omega)
          have hcb := cst_bound HG.out (xu : Int) (xt : Int)
          obtain ⟨co, hco⟩ : ∃ q, q = cst L (xu : Int) (xt : Int) := ⟨_, rfl⟩
          rw [← hco] at zc hcb
          have hkey : u.key.1 = u.c := rfl
          rw [hkey] at hcu
          have hct := HF.out.cost HG.out hs hmt
          have hkt : t.key.1 = t.c := rfl
          rw [hkt] at hct
          have hne : u.c + co = t.c → (xu : Int) ≠ (xt : Int) := fun h e => by
            rw [hco, e, cst_self HG.out] at h
            unfold Far at h
            omega
          have hrow : rowS L t.key ((P.map TV.key).take (m + 1)) = rowS L t.key ((P.map TV.key).take m) ++ if u.c + co = t.c then [((xu : Int), (xt : Int))] else [] := by
            have e1 : (P.map TV.key)[m]? = some u.key := by rw [List.getElem?_map, huk]; rfl
            rw [List.take_add_one, e1, Option.toList_some, rowS_snoc, hxu, hxt, ← hco]
            rfl
          have hlen : pre.length < 100 := by
            have h1 := congrArg List.length hp
            have h2 := prsK_len L (P.map TV.key) (by simpa using hPl) k (by simpa using hk)
            have h3 := rowS_len L t.key ((P.map TV.key).take m)
            rw [List.length_take] at h3
            rw [List.length_append, List.length_map] at h1
            omega
          have Hrow := Lib.hid hrow
          have Hlen := Lib.hid hlen
          have Hp := Lib.hid hp
          obtain ⟨bu, hbu⟩ : ∃ q, q = wi.heap.size := ⟨_, rfl⟩
          obtain ⟨wc, hwc⟩ : ∃ q, q = wi.alloc (.cells #[.int .i64 u.c, .slice (some ⟨u.g, 0, none⟩) (lu + 1) u.cap] 64) := ⟨_, rfl⟩
          have hbw : Below wi.heap.size wi wc := by rw [hwc]; exact (Below.refl _ _).alloc (Nat.le_refl _) _
          have y0 : wc.cell? ⟨bu, 0, none⟩ = some (.int .i64 u.c) := by rw [hwc, hbu, newAt rfl]; rfl
          have y1 : wc.cell? ⟨bu, 1, none⟩ = some (.slice (some ⟨u.g, 0, none⟩) (lu + 1) u.cap) := by rw [hwc, hbu, newAt rfl]; rfl
          have y2 : wc.cell? ⟨bt, 0, none⟩ = some (.int .i64 t.c) := (hbw.cell (blk_lt ht0)).trans ht0
          have y3 : wc.cell? ⟨bt, 1, none⟩ = some (.slice (some ⟨t.g, 0, none⟩) (lt + 1) t.cap) := (hbw.cell (blk_lt ht1)).trans ht1
          have y4 : wc.cell? ⟨bc, xu * 10 + xt, none⟩ = some (.int .i64 co) := (hbw.cell (blk_lt zc)).trans zc
          have y5 : wc.cell? ⟨u.g, lu, none⟩ = some (.int .i64 (xu : Int)) := (hbw.cell (blk_lt huz)).trans huz
          have y6 : wc.cell? ⟨t.g, lt, none⟩ = some (.int .i64 (xt : Int)) := (hbw.cell (blk_lt htz)).trans htz
          have HYs := Lib.hid (And.intro y0 (And.intro y1 (And.intro y2 (And.intro y3 (And.intro y4 (And.intro y5 y6))))))
          have Hj := Lib.hid (AbidesFrom.below HJ.out hj hbw)
          have Hi := Lib.hid (hi.below hbw)
          have Hwc := Lib.hid hwc
          have hlu6 : lu ≤ 1100000 := by omega
          have hlt6 : lt ≤ 1100000 := by have := Hlt2.out; omega
          have n0 : (0 : Int) ≤ (xu : Int) := by omega
          have n1 : (xu : Int) < 10 := by omega
          have n2 : (0 : Int) ≤ (xt : Int) := by omega
          have n3 : (xt : Int) < 10 := by omega
          have r0 : (0 : Int) ≤ (m : Int) := by omega
          have r1 : (m : Int) < (k : Int) := by omega
          have hwr : IntKind.i64.wrap (u.c + co) = u.c + co := by rw [IntKind.wrap_i64]; omega
          have hmx : Try.prog.follows .mixedOrders = true := by kernel_rfl
          clear hp hj hi ht0 ht1 hug huz htz zc hco hrow hlen hwc hbw y0 y1 y2 y3 y4 y5 y6 hS huk hlu hmu hmt hxu hxt hkey hul hul2 hct hkt
          gi_wp2_with fail
          rw [← Hwc.out, ← hbu]
          clear Hwc hbu
          by_cases hq : u.c + co = t.c
          · have g1 : (u.c + co == t.c) = true := by simp [hq]
            obtain ⟨y0, y1, y2, y3, y4, y5, y6⟩ := HYs.out
            have hub := blk_lt y0
            have htb := blk_lt y2
            have hcb2 := blk_lt y4
            have hgu := blk_lt y5
            have hgt := blk_lt y6
            simp only at hub htb hcb2 hgu hgt
            refine wpIn_region_heldY (S := Below wc.heap.size wc) [19, 20, 21] hmx (Below.refl _ _).drew (fun hHeld => ?_)
            refine stepY_read 0 30 [0, 1, 9, 12, 13, 14, 15, 16, 17, 18, 19, 20, 21] (by rfl) rfl rfl (by kernel_rfl) (by kernel_rfl) (by kernel_rfl) (by kernel_rfl) (fun _ _ _ h => h) (by rfl) (fun _ => rfl) (v := ?_) (fun w hSw => ?_) (by assumption) ?_; rotate_left; (focus (have k0 := (hSw.cell (p := ⟨bu, 0, none⟩) hub).trans y0; have k1 := (hSw.cell (p := ⟨bu, 1, none⟩) hub).trans y1; have k2 := (hSw.cell (p := ⟨bt, 0, none⟩) htb).trans y2; have k3 := (hSw.cell (p := ⟨bt, 1, none⟩) htb).trans y3; have k4 := (hSw.cell (p := ⟨bc, xu * 10 + xt, none⟩) hcb2).trans y4; go_simp; first | done | exact rfl)); simp only [List.set]
            refine stepY_read 1 31 [1, 9, 12, 13, 14, 15, 16, 17, 18, 19, 20, 21] (by rfl) rfl rfl (by kernel_rfl) (by kernel_rfl) (by kernel_rfl) (by kernel_rfl) (fun _ _ _ h => h) (by rfl) (fun _ => rfl) (v := ?_) (fun w hSw => ?_) (by assumption) ?_; rotate_left; (focus (have k0 := (hSw.cell (p := ⟨bu, 0, none⟩) hub).trans y0; have k1 := (hSw.cell (p := ⟨bu, 1, none⟩) hub).trans y1; have k2 := (hSw.cell (p := ⟨bt, 0, none⟩) htb).trans y2; have k3 := (hSw.cell (p := ⟨bt, 1, none⟩) htb).trans y3; have k4 := (hSw.cell (p := ⟨bc, xu * 10 + xt, none⟩) hcb2).trans y4; go_simp; first | done | exact rfl)); simp only [List.set]
            refine stepY_read 2 32 [2, 3, 5, 6, 7, 8, 9, 12, 13, 14, 15, 16, 17, 18, 19, 20, 21] (by rfl) rfl rfl (by kernel_rfl) (by kernel_rfl) (by kernel_rfl) (by kernel_rfl) (fun _ _ _ h => h) (by rfl) (fun _ => rfl) (v := ?_) (fun w hSw => ?_) (by assumption) ?_; rotate_left; (focus (have k0 := (hSw.cell (p := ⟨bu, 0, none⟩) hub).trans y0; have k1 := (hSw.cell (p := ⟨bu, 1, none⟩) hub).trans y1; have k2 := (hSw.cell (p := ⟨bt, 0, none⟩) htb).trans y2; have k3 := (hSw.cell (p := ⟨bt, 1, none⟩) htb).trans y3; have k4 := (hSw.cell (p := ⟨bc, xu * 10 + xt, none⟩) hcb2).trans y4; go_simp; first | done | exact rfl)); simp only [List.set]
            refine stepY_read 4 34 [4, 5, 7, 8, 9, 12, 13, 14, 15, 16, 17, 18, 19, 20, 21] (by rfl) rfl rfl (by kernel_rfl) (by kernel_rfl) (by kernel_rfl) (by kernel_rfl) (fun _ _ _ h => h) (by rfl) (fun _ => rfl) (v := ?_) (fun w hSw => ?_) (by assumption) ?_; rotate_left; (focus (have k0 := (hSw.cell (p := ⟨bu, 0, none⟩) hub).trans y0; have k1 := (hSw.cell (p := ⟨bu, 1, none⟩) hub).trans y1; have k2 := (hSw.cell (p := ⟨bt, 0, none⟩) htb).trans y2; have k3 := (hSw.cell (p := ⟨bt, 1, none⟩) htb).trans y3; have k4 := (hSw.cell (p := ⟨bc, xu * 10 + xt, none⟩) hcb2).trans y4; go_simp; first | done | exact rfl)); simp only [List.set]
            refine stepY_read 10 40 [10, 11, 12, 13, 14, 15, 16, 17, 18, 19, 20, 21] (by rfl) rfl rfl (by kernel_rfl) (by kernel_rfl) (by kernel_rfl) (by kernel_rfl) (fun _ _ _ h => h) (by rfl) (fun _ => rfl) (v := ?_) (fun w hSw => ?_) (by assumption) ?_; rotate_left; (focus (have k0 := (hSw.cell (p := ⟨bu, 0, none⟩) hub).trans y0; have k1 := (hSw.cell (p := ⟨bu, 1, none⟩) hub).trans y1; have k2 := (hSw.cell (p := ⟨bt, 0, none⟩) htb).trans y2; have k3 := (hSw.cell (p := ⟨bt, 1, none⟩) htb).trans y3; have k4 := (hSw.cell (p := ⟨bc, xu * 10 + xt, none⟩) hcb2).trans y4; go_simp; first | done | exact rfl)); simp only [List.set]
            refine stepY_read 11 41 [11, 12, 13, 14, 15, 16, 17, 18, 19, 20, 21] (by rfl) rfl rfl (by kernel_rfl) (by kernel_rfl) (by kernel_rfl) (by kernel_rfl) (fun _ _ _ h => h) (by rfl) (fun _ => rfl) (v := ?_) (fun w hSw => ?_) (by assumption) ?_; rotate_left; (focus (have k0 := (hSw.cell (p := ⟨bu, 0, none⟩) hub).trans y0; have k1 := (hSw.cell (p := ⟨bu, 1, none⟩) hub).trans y1; have k2 := (hSw.cell (p := ⟨bt, 0, none⟩) htb).trans y2; have k3 := (hSw.cell (p := ⟨bt, 1, none⟩) htb).trans y3; have k4 := (hSw.cell (p := ⟨bc, xu * 10 + xt, none⟩) hcb2).trans y4; go_simp; first | done | exact rfl)); simp only [List.set]
            refine stepY_one 3 rfl (by kernel_rfl) rfl (fun Kc hK => ?_)
            go_simp
            refine ⟨trivial, ?_⟩
            gi_at_call 57
            refine CallsIn.mono (callsIn_wide.2 (end_any u.c (xu : Int) u.g lu u.cap _ hlu6 (Nat.lt_of_lt_of_le hgu hHeld.size) ((hHeld.cell (p := ⟨u.g, lu, none⟩) hgu).trans y5))) ?_
            rintro e w' ⟨rfl, hb'⟩
            refine hK.out _ _ (hHeld.trans (hb'.mono hHeld.size)) ?_
            clear hK Kc hHeld hb'
            intro hHeld
            refine stepY_read 6 36 [6, 7, 8, 9, 12, 13, 14, 15, 16, 17, 18, 19, 20, 21] (by rfl) rfl rfl (by kernel_rfl) (by kernel_rfl) (by kernel_rfl) (by kernel_rfl) (fun _ _ _ h => h) (by rfl) (fun _ => rfl) (v := ?_) (fun w hSw => ?_) (by assumption) ?_; rotate_left; (focus (have k0 := (hSw.cell (p := ⟨bu, 0, none⟩) hub).trans y0; have k1 := (hSw.cell (p := ⟨bu, 1, none⟩) hub).trans y1; have k2 := (hSw.cell (p := ⟨bt, 0, none⟩) htb).trans y2; have k3 := (hSw.cell (p := ⟨bt, 1, none⟩) htb).trans y3; have k4 := (hSw.cell (p := ⟨bc, xu * 10 + xt, none⟩) hcb2).trans y4; go_simp; first | done | exact rfl)); simp only [List.set]
            refine stepY_one 5 rfl (by kernel_rfl) rfl (fun Kc hK => ?_)
            go_simp
            refine ⟨trivial, ?_⟩
            gi_at_call 57
            refine CallsIn.mono (callsIn_wide.2 (end_any t.c (xt : Int) t.g lt t.cap _ hlt6 (Nat.lt_of_lt_of_le hgt hHeld.size) ((hHeld.cell (p := ⟨t.g, lt, none⟩) hgt).trans y6))) ?_
            rintro e w' ⟨rfl, hb'⟩
            refine hK.out _ _ (hHeld.trans (hb'.mono hHeld.size)) ?_
            clear hK Kc hHeld hb'
            intro hHeld
            refine stepY_read 7 37 [7, 8, 9, 12, 13, 14, 15, 16, 17, 18, 19, 20, 21] (by rfl) rfl rfl (by kernel_rfl) (by kernel_rfl) (by kernel_rfl) (by kernel_rfl) (fun _ _ _ h => h) (by rfl) (fun _ => rfl) (v := ?_) (fun w hSw => ?_) (by assumption) ?_; rotate_left; (focus (have k0 := (hSw.cell (p := ⟨bu, 0, none⟩) hub).trans y0; have k1 := (hSw.cell (p := ⟨bu, 1, none⟩) hub).trans y1; have k2 := (hSw.cell (p := ⟨bt, 0, none⟩) htb).trans y2; have k3 := (hSw.cell (p := ⟨bt, 1, none⟩) htb).trans y3; have k4 := (hSw.cell (p := ⟨bc, xu * 10 + xt, none⟩) hcb2).trans y4; go_simp; first | done | exact rfl)); simp only [List.set]
            refine stepY_read 8 38 [8, 9, 12, 13, 14, 15, 16, 17, 18, 19, 20, 21] (by rfl) rfl rfl (by kernel_rfl) (by kernel_rfl) (by kernel_rfl) (by kernel_rfl) (fun _ _ _ h => h) (by rfl) (fun _ => rfl) (v := ?_) (fun w hSw => ?_) (by assumption) ?_; rotate_left; (focus (have k0 := (hSw.cell (p := ⟨bu, 0, none⟩) hub).trans y0; have k1 := (hSw.cell (p := ⟨bu, 1, none⟩) hub).trans y1; have k2 := (hSw.cell (p := ⟨bt, 0, none⟩) htb).trans y2; have k3 := (hSw.cell (p := ⟨bt, 1, none⟩) htb).trans y3; have k4 := (hSw.cell (p := ⟨bc, xu * 10 + xt, none⟩) hcb2).trans y4; go_simp; first | done | exact rfl)); simp only [List.set]
            refine stepY_read 9 39 [9, 12, 13, 14, 15, 16, 17, 18, 19, 20, 21] (by rfl) rfl rfl (by kernel_rfl) (by kernel_rfl) (by kernel_rfl) (by kernel_rfl) (fun _ _ _ h => h) (by rfl) (fun _ => rfl) (v := ?_) (fun w hSw => ?_) (by assumption) ?_; rotate_left; (focus (have k0 := (hSw.cell (p := ⟨bu, 0, none⟩) hub).trans y0; have k1 := (hSw.cell (p := ⟨bu, 1, none⟩) hub).trans y1; have k2 := (hSw.cell (p := ⟨bt, 0, none⟩) htb).trans y2; have k3 := (hSw.cell (p := ⟨bt, 1, none⟩) htb).trans y3; have k4 := (hSw.cell (p := ⟨bc, xu * 10 + xt, none⟩) hcb2).trans y4; go_simp; first | done | exact rfl)); simp only [List.set]
            refine stepY_read 12 42 [12, 13, 14, 15, 16, 17, 18, 19, 20, 21] (by rfl) rfl rfl (by kernel_rfl) (by kernel_rfl) (by kernel_rfl) (by kernel_rfl) (fun _ _ _ h => h) (by rfl) (fun _ => rfl) (v := Value.bool true) (fun w hSw => ?_) (by assumption) ?_; (focus (clear hSw; (try go_simp); first | done | exact rfl | (simp [hq]; done) | (rw [hq] at hwr; exact hwr))); simp only [List.set]
            refine stepY_read 13 43 [13, 14, 15, 16, 17, 18, 19, 20, 21] (by rfl) rfl rfl (by kernel_rfl) (by kernel_rfl) (by kernel_rfl) (by kernel_rfl) (fun _ _ _ h => h) (by rfl) (fun _ => rfl) (v := ?_) (fun w hSw => ?_) (by assumption) ?_; rotate_left; (focus (have k0 := (hSw.cell (p := ⟨bu, 0, none⟩) hub).trans y0; have k1 := (hSw.cell (p := ⟨bu, 1, none⟩) hub).trans y1; have k2 := (hSw.cell (p := ⟨bt, 0, none⟩) htb).trans y2; have k3 := (hSw.cell (p := ⟨bt, 1, none⟩) htb).trans y3; have k4 := (hSw.cell (p := ⟨bc, xu * 10 + xt, none⟩) hcb2).trans y4; go_simp; first | done | exact rfl)); simp only [List.set]
            refine stepY_read 14 44 [14, 19, 20, 21] (by rfl) rfl rfl (by kernel_rfl) (by kernel_rfl) (by kernel_rfl) (by kernel_rfl) (fun _ _ _ h => h) (by rfl) (fun _ => rfl) (v := ?_) (fun w hSw => ?_) (by assumption) ?_; rotate_left; (focus (have k0 := (hSw.cell (p := ⟨bu, 0, none⟩) hub).trans y0; have k1 := (hSw.cell (p := ⟨bu, 1, none⟩) hub).trans y1; have k2 := (hSw.cell (p := ⟨bt, 0, none⟩) htb).trans y2; have k3 := (hSw.cell (p := ⟨bt, 1, none⟩) htb).trans y3; have k4 := (hSw.cell (p := ⟨bc, xu * 10 + xt, none⟩) hcb2).trans y4; go_simp; first | done | exact rfl)); simp only [List.set]
            refine stepY_read 15 45 [15, 16, 18, 19, 20, 21] (by rfl) rfl rfl (by kernel_rfl) (by kernel_rfl) (by kernel_rfl) (by kernel_rfl) (fun _ _ _ h => h) (by rfl) (fun _ => rfl) (v := ?_) (fun w hSw => ?_) (by assumption) ?_; rotate_left; (focus (have k0 := (hSw.cell (p := ⟨bu, 0, none⟩) hub).trans y0; have k1 := (hSw.cell (p := ⟨bu, 1, none⟩) hub).trans y1; have k2 := (hSw.cell (p := ⟨bt, 0, none⟩) htb).trans y2; have k3 := (hSw.cell (p := ⟨bt, 1, none⟩) htb).trans y3; have k4 := (hSw.cell (p := ⟨bc, xu * 10 + xt, none⟩) hcb2).trans y4; go_simp; first | done | exact rfl)); simp only [List.set]
            refine stepY_read 17 47 [17, 18, 19, 20, 21] (by rfl) rfl rfl (by kernel_rfl) (by kernel_rfl) (by kernel_rfl) (by kernel_rfl) (fun _ _ _ h => h) (by rfl) (fun _ => rfl) (v := ?_) (fun w hSw => ?_) (by assumption) ?_; rotate_left; (focus (have k0 := (hSw.cell (p := ⟨bu, 0, none⟩) hub).trans y0; have k1 := (hSw.cell (p := ⟨bu, 1, none⟩) hub).trans y1; have k2 := (hSw.cell (p := ⟨bt, 0, none⟩) htb).trans y2; have k3 := (hSw.cell (p := ⟨bt, 1, none⟩) htb).trans y3; have k4 := (hSw.cell (p := ⟨bc, xu * 10 + xt, none⟩) hcb2).trans y4; go_simp; first | done | exact rfl)); simp only [List.set]
            refine stepY_one 16 rfl (by kernel_rfl) rfl (fun Kc hK => ?_)
            go_simp
            refine ⟨trivial, ?_⟩
            gi_at_call 57
            refine CallsIn.mono (callsIn_wide.2 (end_any u.c (xu : Int) u.g lu u.cap _ hlu6 (Nat.lt_of_lt_of_le hgu hHeld.size) ((hHeld.cell (p := ⟨u.g, lu, none⟩) hgu).trans y5))) ?_
            rintro e w' ⟨rfl, hb'⟩
            refine hK.out _ _ (hHeld.trans (hb'.mono hHeld.size)) ?_
            clear hK Kc hHeld hb'
            intro hHeld
            refine stepY_one 18 rfl (by kernel_rfl) rfl (fun Kc hK => ?_)
            go_simp
            refine ⟨trivial, ?_⟩
            gi_at_call 57
            refine CallsIn.mono (callsIn_wide.2 (end_any t.c (xt : Int) t.g lt t.cap _ hlt6 (Nat.lt_of_lt_of_le hgt hHeld.size) ((hHeld.cell (p := ⟨t.g, lt, none⟩) hgt).trans y6))) ?_
            rintro e w' ⟨rfl, hb'⟩
            refine hK.out _ _ (hHeld.trans (hb'.mono hHeld.size)) ?_
            clear hK Kc hHeld hb'
            intro hHeld
            obtain ⟨fn, tmps, assign, body, hy, hR⟩ := HY.out pre ⟨((xu : Int), (xt : Int)), ⟨n0, n1⟩, ⟨n2, n3⟩, hne hq⟩ w' (AbidesFrom.below HJ.out Hj.out hHeld) Hlen.out
            dsimp only [encP] at hy
            have Hi3 := Lib.hid (Hi.out.below hHeld)
            have v2 := (hHeld.cell (p := ⟨bt, 0, none⟩) htb).trans y2
            have v3 := (hHeld.cell (p := ⟨bt, 1, none⟩) htb).trans y3
            clear hHeld y0 y1 y2 y3 y4 y5 y6
            refine stepY_last 19 rfl (by kernel_rfl) rfl (fun Kc hK => ?_)
            go_simp
            refine hR.mono ?_
            clear hR hy
            rintro e W3 (⟨rfl, hJ3, hk3⟩ | ⟨rfl, hJx3⟩)
            · refine hK.out _ _ ?_
              clear hK Kc
              have Hi4 := Lib.hid (Hi3.out.kp hk3 HX.out)
              have u2 := hk3.cell (p := ⟨bt, 0, none⟩) (fun h => by have := HX.out _ h; simp only at this; omega) v2
              have u3 := hk3.cell (p := ⟨bt, 1, none⟩) (fun h => by have := HX.out _ h; simp only at this; omega) v3
              have Hj3 := Lib.hid hJ3
              clear v2 v3 Hi3 hk3 hJ3
              refine stepY_last 20 rfl (by kernel_rfl) rfl (fun Kc hK => ?_)
              go_simp
              refine hK.out _ _ ?_
              clear hK Kc
              refine stepY_last 21 rfl (by kernel_rfl) rfl (fun Kc hK => ?_)
              go_simp
              refine hK.out _ _ ?_
              clear hK Kc
              refine wpHY_done (by kernel_rfl) ?_ _
              clear hub htb hcb2 hgu hgt
              gi_wp2_with fail
              go_roundw
              case rel => exact ⟨m + 1, by omega, by go_num, ⟨pre ++ [⟨((xu : Int), (xt : Int)), ⟨n0, n1⟩, ⟨n2, n3⟩, hne hq⟩], by rw [List.map_append, Hp.out, Hrow.out, if_pos hq, List.append_assoc]; rfl, Hj3.out, Hi4.out, u2, u3⟩⟩
              case measure => simp [intOf]; omega
            · refine hK.out _ _ ?_
              clear hK Kc
              have Hj3 := Lib.hid hJx3
              clear hJx3 Hi3 v2 v3 hub htb hcb2 hgu hgt
              refine stepY_last 20 rfl (by kernel_rfl) rfl (fun Kc hK => ?_)
              go_simp
              refine hK.out _ _ ?_
              clear hK Kc
              refine stepY_last 21 rfl (by kernel_rfl) rfl (fun Kc hK => ?_)
              go_simp
              refine hK.out _ _ ?_
              clear hK Kc
              refine wpHY_done (by kernel_rfl) ?_ _
              gi_wp2_with fail
              refine bodyPost_ret (results_none rfl _ _ _) rfl ?_
              exact ⟨⟨_, rfl⟩, .inr ⟨_, trivial, Hj3.out⟩⟩
          · have g1 : (u.c + co == t.c) = false := by simp [hq]
            obtain ⟨y0, y1, y2, y3, y4, y5, y6⟩ := HYs.out
            have hub := blk_lt y0
            have htb := blk_lt y2
            have hcb2 := blk_lt y4
            have hgu := blk_lt y5
            have hgt := blk_lt y6
            simp only at hub htb hcb2 hgu hgt
            refine wpIn_region_heldY (S := Below wc.heap.size wc) [] hmx (Below.refl _ _).drew (fun hHeld => ?_)
            refine stepY_read 0 30 [0] (by rfl) rfl rfl (by kernel_rfl) (by kernel_rfl) (by kernel_rfl) (by kernel_rfl) (fun _ _ _ h => h) (by rfl) (fun _ => rfl) (v := ?_) (fun w hSw => ?_) (by assumption) ?_; rotate_left; (focus (have k0 := (hSw.cell (p := ⟨bu, 0, none⟩) hub).trans y0; have k1 := (hSw.cell (p := ⟨bu, 1, none⟩) hub).trans y1; have k2 := (hSw.cell (p := ⟨bt, 0, none⟩) htb).trans y2; have k3 := (hSw.cell (p := ⟨bt, 1, none⟩) htb).trans y3; have k4 := (hSw.cell (p := ⟨bc, xu * 10 + xt, none⟩) hcb2).trans y4; go_simp; first | done | exact rfl)); simp only [List.set]
            refine stepY_read 1 31 [1] (by rfl) rfl rfl (by kernel_rfl) (by kernel_rfl) (by kernel_rfl) (by kernel_rfl) (fun _ _ _ h => h) (by rfl) (fun _ => rfl) (v := ?_) (fun w hSw => ?_) (by assumption) ?_; rotate_left; (focus (have k0 := (hSw.cell (p := ⟨bu, 0, none⟩) hub).trans y0; have k1 := (hSw.cell (p := ⟨bu, 1, none⟩) hub).trans y1; have k2 := (hSw.cell (p := ⟨bt, 0, none⟩) htb).trans y2; have k3 := (hSw.cell (p := ⟨bt, 1, none⟩) htb).trans y3; have k4 := (hSw.cell (p := ⟨bc, xu * 10 + xt, none⟩) hcb2).trans y4; go_simp; first | done | exact rfl)); simp only [List.set]
            refine stepY_read 2 32 [2] (by rfl) rfl rfl (by kernel_rfl) (by kernel_rfl) (by kernel_rfl) (by kernel_rfl) (fun _ _ _ h => h) (by rfl) (fun _ => rfl) (v := ?_) (fun w hSw => ?_) (by assumption) ?_; rotate_left; (focus (have k0 := (hSw.cell (p := ⟨bu, 0, none⟩) hub).trans y0; have k1 := (hSw.cell (p := ⟨bu, 1, none⟩) hub).trans y1; have k2 := (hSw.cell (p := ⟨bt, 0, none⟩) htb).trans y2; have k3 := (hSw.cell (p := ⟨bt, 1, none⟩) htb).trans y3; have k4 := (hSw.cell (p := ⟨bc, xu * 10 + xt, none⟩) hcb2).trans y4; go_simp; first | done | exact rfl)); simp only [List.set]
            refine stepY_read 4 34 [4] (by rfl) rfl rfl (by kernel_rfl) (by kernel_rfl) (by kernel_rfl) (by kernel_rfl) (fun _ _ _ h => h) (by rfl) (fun _ => rfl) (v := ?_) (fun w hSw => ?_) (by assumption) ?_; rotate_left; (focus (have k0 := (hSw.cell (p := ⟨bu, 0, none⟩) hub).trans y0; have k1 := (hSw.cell (p := ⟨bu, 1, none⟩) hub).trans y1; have k2 := (hSw.cell (p := ⟨bt, 0, none⟩) htb).trans y2; have k3 := (hSw.cell (p := ⟨bt, 1, none⟩) htb).trans y3; have k4 := (hSw.cell (p := ⟨bc, xu * 10 + xt, none⟩) hcb2).trans y4; go_simp; first | done | exact rfl)); simp only [List.set]
            refine stepY_read 10 40 [10] (by rfl) rfl rfl (by kernel_rfl) (by kernel_rfl) (by kernel_rfl) (by kernel_rfl) (fun _ _ _ h => h) (by rfl) (fun _ => rfl) (v := ?_) (fun w hSw => ?_) (by assumption) ?_; rotate_left; (focus (have k0 := (hSw.cell (p := ⟨bu, 0, none⟩) hub).trans y0; have k1 := (hSw.cell (p := ⟨bu, 1, none⟩) hub).trans y1; have k2 := (hSw.cell (p := ⟨bt, 0, none⟩) htb).trans y2; have k3 := (hSw.cell (p := ⟨bt, 1, none⟩) htb).trans y3; have k4 := (hSw.cell (p := ⟨bc, xu * 10 + xt, none⟩) hcb2).trans y4; go_simp; first | done | exact rfl)); simp only [List.set]
            refine stepY_read 11 41 [11] (by rfl) rfl rfl (by kernel_rfl) (by kernel_rfl) (by kernel_rfl) (by kernel_rfl) (fun _ _ _ h => h) (by rfl) (fun _ => rfl) (v := ?_) (fun w hSw => ?_) (by assumption) ?_; rotate_left; (focus (have k0 := (hSw.cell (p := ⟨bu, 0, none⟩) hub).trans y0; have k1 := (hSw.cell (p := ⟨bu, 1, none⟩) hub).trans y1; have k2 := (hSw.cell (p := ⟨bt, 0, none⟩) htb).trans y2; have k3 := (hSw.cell (p := ⟨bt, 1, none⟩) htb).trans y3; have k4 := (hSw.cell (p := ⟨bc, xu * 10 + xt, none⟩) hcb2).trans y4; go_simp; first | done | exact rfl)); simp only [List.set]
            refine stepY_one 3 rfl (by kernel_rfl) rfl (fun Kc hK => ?_)
            go_simp
            refine ⟨trivial, ?_⟩
            gi_at_call 57
            refine CallsIn.mono (callsIn_wide.2 (end_any u.c (xu : Int) u.g lu u.cap _ hlu6 (Nat.lt_of_lt_of_le hgu hHeld.size) ((hHeld.cell (p := ⟨u.g, lu, none⟩) hgu).trans y5))) ?_
            rintro e w' ⟨rfl, hb'⟩
            refine hK.out _ _ (hHeld.trans (hb'.mono hHeld.size)) ?_
            clear hK Kc hHeld hb'
            intro hHeld
            refine stepY_read 6 36 [6] (by rfl) rfl rfl (by kernel_rfl) (by kernel_rfl) (by kernel_rfl) (by kernel_rfl) (fun _ _ _ h => h) (by rfl) (fun _ => rfl) (v := ?_) (fun w hSw => ?_) (by assumption) ?_; rotate_left; (focus (have k0 := (hSw.cell (p := ⟨bu, 0, none⟩) hub).trans y0; have k1 := (hSw.cell (p := ⟨bu, 1, none⟩) hub).trans y1; have k2 := (hSw.cell (p := ⟨bt, 0, none⟩) htb).trans y2; have k3 := (hSw.cell (p := ⟨bt, 1, none⟩) htb).trans y3; have k4 := (hSw.cell (p := ⟨bc, xu * 10 + xt, none⟩) hcb2).trans y4; go_simp; first | done | exact rfl)); simp only [List.set]
            refine stepY_one 5 rfl (by kernel_rfl) rfl (fun Kc hK => ?_)
            go_simp
            refine ⟨trivial, ?_⟩
            gi_at_call 57
            refine CallsIn.mono (callsIn_wide.2 (end_any t.c (xt : Int) t.g lt t.cap _ hlt6 (Nat.lt_of_lt_of_le hgt hHeld.size) ((hHeld.cell (p := ⟨t.g, lt, none⟩) hgt).trans y6))) ?_
            rintro e w' ⟨rfl, hb'⟩
            refine hK.out _ _ (hHeld.trans (hb'.mono hHeld.size)) ?_
            clear hK Kc hHeld hb'
            intro hHeld
            refine stepY_read 7 37 [7] (by rfl) rfl rfl (by kernel_rfl) (by kernel_rfl) (by kernel_rfl) (by kernel_rfl) (fun _ _ _ h => h) (by rfl) (fun _ => rfl) (v := ?_) (fun w hSw => ?_) (by assumption) ?_; rotate_left; (focus (have k0 := (hSw.cell (p := ⟨bu, 0, none⟩) hub).trans y0; have k1 := (hSw.cell (p := ⟨bu, 1, none⟩) hub).trans y1; have k2 := (hSw.cell (p := ⟨bt, 0, none⟩) htb).trans y2; have k3 := (hSw.cell (p := ⟨bt, 1, none⟩) htb).trans y3; have k4 := (hSw.cell (p := ⟨bc, xu * 10 + xt, none⟩) hcb2).trans y4; go_simp; first | done | exact rfl)); simp only [List.set]
            refine stepY_read 8 38 [8] (by rfl) rfl rfl (by kernel_rfl) (by kernel_rfl) (by kernel_rfl) (by kernel_rfl) (fun _ _ _ h => h) (by rfl) (fun _ => rfl) (v := ?_) (fun w hSw => ?_) (by assumption) ?_; rotate_left; (focus (have k0 := (hSw.cell (p := ⟨bu, 0, none⟩) hub).trans y0; have k1 := (hSw.cell (p := ⟨bu, 1, none⟩) hub).trans y1; have k2 := (hSw.cell (p := ⟨bt, 0, none⟩) htb).trans y2; have k3 := (hSw.cell (p := ⟨bt, 1, none⟩) htb).trans y3; have k4 := (hSw.cell (p := ⟨bc, xu * 10 + xt, none⟩) hcb2).trans y4; go_simp; first | done | exact rfl)); simp only [List.set]
            refine stepY_read 9 39 [9] (by rfl) rfl rfl (by kernel_rfl) (by kernel_rfl) (by kernel_rfl) (by kernel_rfl) (fun _ _ _ h => h) (by rfl) (fun _ => rfl) (v := ?_) (fun w hSw => ?_) (by assumption) ?_; rotate_left; (focus (have k0 := (hSw.cell (p := ⟨bu, 0, none⟩) hub).trans y0; have k1 := (hSw.cell (p := ⟨bu, 1, none⟩) hub).trans y1; have k2 := (hSw.cell (p := ⟨bt, 0, none⟩) htb).trans y2; have k3 := (hSw.cell (p := ⟨bt, 1, none⟩) htb).trans y3; have k4 := (hSw.cell (p := ⟨bc, xu * 10 + xt, none⟩) hcb2).trans y4; go_simp; first | done | exact rfl)); simp only [List.set]
            refine stepY_read 12 42 [12] (by rfl) rfl rfl (by kernel_rfl) (by kernel_rfl) (by kernel_rfl) (by kernel_rfl) (fun _ _ _ h => h) (by rfl) (fun _ => rfl) (v := Value.bool false) (fun w hSw => ?_) (by assumption) ?_; (focus (clear hSw; (try go_simp); first | done | exact rfl | (simp [hq]; done) | (rw [hq] at hwr; exact hwr))); simp only [List.set]
            refine stepY_read 13 43 [13] (by rfl) rfl rfl (by kernel_rfl) (by kernel_rfl) (by kernel_rfl) (by kernel_rfl) (fun _ _ _ h => h) (by rfl) (fun _ => rfl) (v := ?_) (fun w hSw => ?_) (by assumption) ?_; rotate_left; (focus (have k0 := (hSw.cell (p := ⟨bu, 0, none⟩) hub).trans y0; have k1 := (hSw.cell (p := ⟨bu, 1, none⟩) hub).trans y1; have k2 := (hSw.cell (p := ⟨bt, 0, none⟩) htb).trans y2; have k3 := (hSw.cell (p := ⟨bt, 1, none⟩) htb).trans y3; have k4 := (hSw.cell (p := ⟨bc, xu * 10 + xt, none⟩) hcb2).trans y4; go_simp; first | done | exact rfl)); simp only [List.set]
            refine stepY_skip 14 44 [14] (by rfl) rfl rfl (by kernel_rfl) (by kernel_rfl) (by kernel_rfl) (by kernel_rfl) (fun _ _ _ h => h) (by rfl) (fun _ => rfl) (by assumption) ?_; simp only [List.set]
            refine stepY_skip 15 45 [15] (by rfl) rfl rfl (by kernel_rfl) (by kernel_rfl) (by kernel_rfl) (by kernel_rfl) (fun _ _ _ h => h) (by rfl) (fun _ => rfl) (by assumption) ?_; simp only [List.set]
            refine stepY_skip 17 47 [17] (by rfl) rfl rfl (by kernel_rfl) (by kernel_rfl) (by kernel_rfl) (by kernel_rfl) (fun _ _ _ h => h) (by rfl) (fun _ => rfl) (by assumption) ?_; simp only [List.set]
            refine stepY_one 16 rfl (by kernel_rfl) rfl (fun Kc hK => ?_)
            go_simp
            refine ⟨trivial, ?_⟩
            refine hK.out _ _ hHeld ?_
            clear hK Kc hHeld
            intro hHeld
            refine stepY_one 18 rfl (by kernel_rfl) rfl (fun Kc hK => ?_)
            go_simp
            refine ⟨trivial, ?_⟩
            refine hK.out _ _ hHeld ?_
            clear hK Kc hHeld
            intro hHeld
            refine stepY_one 19 rfl (by kernel_rfl) rfl (fun Kc hK => ?_)
            go_simp
            refine ⟨fun _ _ => trivial, ?_⟩
            refine hK.out _ _ hHeld ?_
            clear hK Kc hHeld
            intro hHeld
            refine stepY_skip 20 50 [20] (by rfl) rfl rfl (by kernel_rfl) (by kernel_rfl) (by kernel_rfl) (by kernel_rfl) (fun _ _ _ h => h) (by rfl) (fun _ => rfl) (by assumption) ?_; simp only [List.set]
            refine stepY_read 21 51 [21] (by rfl) rfl rfl (by kernel_rfl) (by kernel_rfl) (by kernel_rfl) (by kernel_rfl) (fun _ _ _ h => h) (by rfl) (fun _ => rfl) (v := ?_) (fun w hSw => ?_) (by assumption) ?_; rotate_left; (focus (have k0 := (hSw.cell (p := ⟨bu, 0, none⟩) hub).trans y0; have k1 := (hSw.cell (p := ⟨bu, 1, none⟩) hub).trans y1; have k2 := (hSw.cell (p := ⟨bt, 0, none⟩) htb).trans y2; have k3 := (hSw.cell (p := ⟨bt, 1, none⟩) htb).trans y3; have k4 := (hSw.cell (p := ⟨bc, xu * 10 + xt, none⟩) hcb2).trans y4; go_simp; first | done | exact rfl)); simp only [List.set]
            refine wpHY_done (by kernel_rfl) ?_ _
            have Hh := Lib.hid hHeld
            clear hHeld hub htb hcb2 hgu hgt
            gi_wp2_with fail
            go_roundw
            case rel => exact ⟨m + 1, by omega, by go_num, ⟨pre, by rw [Hrow.out, if_neg hq, List.append_nil]; exact Hp.out, AbidesFrom.below HJ.out Hj.out Hh.out, Hi.out.below Hh.out, (Hh.out.cell (blk_lt y2)).trans y2, (Hh.out.cell (blk_lt y3)).trans y3⟩⟩
            case measure => simp [intOf]; omega
        · obtain rfl : k = m := by omega
          have hge : ¬ ((k : Int) < (k : Int)) := by omega
          obtain ⟨pre, hp, hj, hi, _, _⟩ := hS.out
          gi_wp2_with fail
          go_roundw
          case rel => exact ⟨k + 1, by omega, by go_num, ⟨pre, by rw [hp, prsK_succ (t := t.key) (by rw [List.getElem?_map, Htk.out]; rfl)], hj, hi⟩⟩
          case measure => simp [intOf]; omega
    · obtain rfl : P.length = k := by omega
      have hge : ¬ ((P.length : Int) < (P.length : Int)) := by omega
      obtain ⟨pre0, hp0, hj0, _⟩ := hS.out
      gi_wp2_with fail
      go_end0
      exact ⟨⟨_, rfl⟩, .inl ⟨pre0, ⟨P.map TV.key, HF.out, by simpa using hPl, by rw [hp0]; simp [prs]⟩, hj0⟩⟩

end Go.Proofs.Ytkkfgnnhdcmmjaa
