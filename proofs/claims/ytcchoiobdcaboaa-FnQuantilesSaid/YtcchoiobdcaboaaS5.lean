/- Copies of histograms, by both. -/
import Derived.Test.YtcchoiobdcaboaaS2
import Derived.StillTailTactics
import Derived.Deep.DeepCutAuto
namespace Go.Proofs.Ytcchoiobdcaboaa
open Go.RowKit


/-- What a function that answers a histogram leaves: C and s, in memory of the call's own. -/
def HPost (C : List Int) (s : Int) (n : Nat) (w : World) (e : Ending) (w' : World) : Prop := ∃ rv, e = .returned (.agg #[rv, .int .i64 s]) ∧ Row 1 w' w.heap.size w'.heap.size rv n C ∧ Below w.heap.size w w'
def HBPost (C : List Int) (s : Int) (ok : Bool) (n : Nat) (w : World) (e : Ending) (w' : World) : Prop := ∃ rv, e = .returned (.tuple #[.agg #[rv, .int .i64 s], .bool ok]) ∧ Row 1 w' w.heap.size w'.heap.size rv n C ∧ Below w.heap.size w w'
theorem below_undrew {w w' : World} {B : Nat} (h : Below B w.drew w') : Below B w w' := ⟨h.os, h.tape, h.output, h.size, h.block⟩
theorem step_append_zero {ops : Array Oper} {o : Oper} {a : Act} {w : World} {K : Act → World → Prop} {Q : Exit → Act → World → Prop} {E : Prop} (hgd : o.guard = none) (s x : Operand) (t : TypeId)
    (ho : o.op = .call { callee := .builtin .append, args := #[s, x], argTypes := #[t, t] })
    (base : Nat) (e : TypeId) (i : TypeInfo) (size : Nat) (ht : Try.prog.underlying t = some (.slice e)) (hi : Try.prog.info? e = some i)
    (v : Value) (n : Nat) (xs : List Value) (hs : a.eval s = v) (hown : w.ownsRow base e size v n xs) (p : Option Addr) (c : Nat) (hx : a.eval x = .slice p 0 c)
    (h : K (a.put o.dst v) w) : if Region.wanted o (yielded ops a.tmps) = true then Oper.wp Try.prog o a w K Q else E := by
  rw [if_pos (by simp [Region.wanted, hgd])]
  have hr := append_zero w t o.type base e i size ht hi v n xs hown p c
  unfold Oper.wp execOp
  simp only [ho, resolve, invoke, builtin, Sem.run_bind, Sem.run_pure, Result.andThen_ok, List.map_toArray, List.map_cons, List.map_nil, hs, hx, hr]
  exact h
set_option maxRecDepth 100000 in
set_option maxHeartbeats 4000000 in
theorem lcp_any (lo hi n : Nat) (v : Value) (l : List Int) (w : World) (hr : Row 1 w lo hi v n l) (hh : hi ≤ w.heap.size) :
    Calls Try.prog 66 #[v] w fun e w' => ∃ rv, e = .returned rv ∧ Row 1 w' w.heap.size w'.heap.size rv n l ∧ Below w.heap.size w w' := by
  have hl : l.length = n := by have := hr.1; omega
  obtain ⟨ad, cp, rfl, hn, hc⟩ := hr.opened
  have HC := Lib.hid hc
  have HL := Lib.hid hl
  obtain ⟨iI, hi0, hz0, hz1, hz2⟩ := info_parts Try.info3
  have I := Lib.hid (And.intro hi0 (And.intro hz0 (And.intro hz1 hz2)))
  clear hi0 hz0 hz1 hz2 hr hc hl
  go_enter Try.func66, Try.ntmps66
  go_wp2_with fail
  go_loopw [3, 4] (fun s i wr => ∃ (k : Nat) (ka : Option Addr) (kc : Nat), k ≤ n ∧ i = .int .i64 (k : Int) ∧ s = .slice ka k kc ∧ Hid (OwnR 3 1 w wr (.slice ka k kc) k (l.take k))) (fun _ i _ => n - (intOf i).toNat)
  case atStart => exact ⟨0, _, _, Nat.zero_le _, rfl, rfl, OwnR.lit0 3 1 w⟩
  case round =>
    obtain ⟨k, ka, kc, hk, rfl, rfl, hK⟩ := hrel
    have hsz := hK.out.below.size
    by_cases hlt : k < n
    case neg =>
      have hge : ¬ ((k : Int) < (n : Int)) := by omega
      obtain rfl : k = n := by omega
      have HE : Hid (Row 1 wr w.heap.size wr.heap.size (.slice ka k kc) k l) := by
        have := hK.out.toRow hn
        rw [List.take_of_length_le (by rw [HL.out]; exact Nat.le_refl _)] at this
        exact this
      have HB := Lib.hid hK.out.below
      clear hK
      go_wp2_with fail
      go_ret
      exact ⟨_, rfl, HE.out, HB.out⟩
    case pos =>
    obtain ⟨g, rfl, hg, hcell⟩ := HC.out (by omega)
    obtain ⟨z, hz⟩ : ∃ z, l[k]? = some z := ⟨_, List.getElem?_eq_getElem (by rw [HL.out]; exact hlt)⟩
    have z0 : wr.cell? ⟨g, k, none⟩ = some (.int .i64 z) := by rw [hK.out.below.cell (p := ⟨g, k, none⟩) (by show g < _; omega)]; exact hcell _ _ hz
    have HZ := Lib.hid (take_snoc1 hz)
    have q0 : (0 : Int) ≤ (k : Int) := by omega
    have q1 : (k : Int) < (n : Int) := by omega
    clear hcell hz HC
    go_wp2_with (at_builtin; refine wpList_append_lies _ rfl _ _ 24 rfl w.heap.size 3 iI (.int .i64 0) 1 8 Try.underlying24 I.out.1 I.out.2.1 I.out.2.2.1 I.out.2.2.2 rfl (by decide) _ k (ints (l.take k)) rfl (hK.out.row.alloc _) ⟨wr.heap.size, 0, none⟩ 1 1 (ints [z]) rfl rfl ?d0 (ints_one _) (by decide) ?d1 ?d2 ?d3 _ rfl ?_)
    case d0 => exact fun j u hj => cells_new _ [z] 3 rfl j u hj
    case d1 => unfold maxLen; omega
    case d2 => omega
    case d3 => simp; omega
    intro g4 cap4 w4 hown4 hgrow4 hat4 hlt4
    have HF : Hid (OwnR 3 1 w w4 (.slice (some ⟨g4, 0, none⟩) (k + 1) cap4) (k + 1) (l.take (k + 1))) := by
      show OwnR _ _ _ _ _ _ _
      rw [HZ.out]
      exact (hK.out.grow ((Below.refl _ _).alloc (Nat.le_refl _) _)).app hgrow4 hown4
    clear hown4 hgrow4 hat4 hlt4 hK
    go_wp2_with fail
    go_roundw
    case rel => exact ⟨k + 1, _, _, by omega, by go_num, rfl, HF⟩
    case measure => simp [intOf]; omega

set_option maxRecDepth 100000 in
set_option maxHeartbeats 4000000 in
theorem scph_any (lo hi n : Nat) (v : Value) (t : Int) (C : List Int) (w : World) (hr : Row 1 w lo hi v n C) (hh : hi ≤ w.heap.size) : Calls Try.prog 56 #[.agg #[v, .int .i64 t]] w (HPost C t n w) := by
  have HR := Lib.hid hr
  obtain ⟨ad, cp, rfl, hn, hc⟩ := hr.opened
  have hl : C.length = n := by have := hr.1; omega
  have HL := Lib.hid hl
  clear hr hl
  go_enter Try.func56, Try.ntmps56
  go_upto_region 1 with fail
  obtain ⟨q1, hq1⟩ : ∃ q, q = ((w.alloc (.cells #[.slice ad n cp, .int .i64 t] 27)).alloc (.cells #[.slice none 0 0, .int .i64 0] 27)) := ⟨_, rfl⟩
  have hb1 : Below w.heap.size w q1 := by rw [hq1]; go_grown
  have sz1 : w.heap.size + 2 ≤ q1.heap.size := by rw [hq1]; simp
  have c1_0 : q1.cell? ⟨w.heap.size, 0, none⟩ = some (.slice ad n cp) := by rw [hq1, old_box (by simp <;> omega), new_at (by simp)]; rfl
  have c1_1 : q1.cell? ⟨w.heap.size, 1, none⟩ = some (.int .i64 t) := by rw [hq1, old_box (by simp <;> omega), new_at (by simp)]; rfl
  have c1_2 : q1.cell? ⟨w.heap.size + 1, 0, none⟩ = some (.slice none 0 0) := by rw [hq1, new_at (by simp)]; rfl
  have c1_3 : q1.cell? ⟨w.heap.size + 1, 1, none⟩ = some (.int .i64 0) := by rw [hq1, new_at (by simp)]; rfl
  have g1_0 : q1.frozen? ⟨w.heap.size + 1, 0, none⟩ = false := by rw [hq1, new_frz (by simp)]
  have g1_1 : q1.frozen? ⟨w.heap.size + 1, 1, none⟩ = false := by rw [hq1, new_frz (by simp)]
  have B1 : Hid (Below w.heap.size w q1) := Lib.hid hb1
  rw [← hq1]
  have d1_0 : w.heap.size < q1.heap.size := by omega
  have e1_0 : w.heap.size ≠ q1.heap.size := by omega
  have d1_1 : w.heap.size + 1 < q1.heap.size := by omega
  have e1_1 : w.heap.size + 1 ≠ q1.heap.size := by omega
  clear hq1 hb1
  obtain ⟨R, hR⟩ : ∃ R, R = w.heap.size + 1 := ⟨_, rfl⟩
  have hRl : R < q1.heap.size := by omega
  have hRw : w.heap.size < R := by omega
  have e0 : q1.cell? ⟨R, 0, none⟩ = some (.slice none 0 0) := by rw [hR]; exact c1_2
  have e1 : q1.cell? ⟨R, 1, none⟩ = some (.int .i64 0) := by rw [hR]; exact c1_3
  have g0 : q1.frozen? ⟨R, 0, none⟩ = false := by rw [hR]; exact g1_0
  have g1 : q1.frozen? ⟨R, 1, none⟩ = false := by rw [hR]; exact g1_1
  rw [← hR]
  clear hR c1_2 c1_3 g1_0 g1_1 d1_0 e1_0 d1_1 e1_1
  have dB : w.heap.size < q1.heap.size := by omega
  have nB : w.heap.size ≠ R := by omega
  go_wp2_with fail
  go_region_law (go_simp; go_at_call 66; refine (lcp_any lo hi n _ C q1.drew (HR.out.below B1.out hh).drew (by have := B1.out.size; show hi ≤ q1.heap.size; omega)).mono ?_; rintro e w3 ⟨rv, rfl, hr3, hb3⟩; have HB3 : Hid (Below q1.heap.size q1 w3) := below_undrew hb3; obtain ⟨ra, rc, rfl⟩ := hr3.slice; have HR3 : Hid (Row 1 w3 q1.heap.size w3.heap.size (.slice ra n rc) n C) := hr3; clear hb3 hr3; have x0 : w3.cell? ⟨w.heap.size, 0, none⟩ = some (.slice ad n cp) := (by rw [HB3.out.cell (p := ⟨w.heap.size, 0, none⟩) dB]; exact c1_0); have x1 : w3.cell? ⟨w.heap.size, 1, none⟩ = some (.int .i64 t) := (by rw [HB3.out.cell (p := ⟨w.heap.size, 1, none⟩) dB]; exact c1_1); have z0 : w3.cell? ⟨R, 0, none⟩ = some (.slice none 0 0) := (by rw [HB3.out.cell (p := ⟨R, 0, none⟩) hRl]; exact e0); have z1 : w3.cell? ⟨R, 1, none⟩ = some (.int .i64 0) := (by rw [HB3.out.cell (p := ⟨R, 1, none⟩) hRl]; exact e1); have y0 : w3.frozen? ⟨R, 0, none⟩ = false := (by rw [HB3.out.frozen (p := ⟨R, 0, none⟩) hRl]; exact g0); have y1 : w3.frozen? ⟨R, 1, none⟩ = false := (by rw [HB3.out.frozen (p := ⟨R, 1, none⟩) hRl]; exact g1))
  all_goals
    go_wp2_with fail
    have r0 : ((w3.setCell ⟨R, 0, none⟩ (.slice ra n rc)).setCell ⟨R, 1, none⟩ (.int .i64 t)).cell? ⟨R, 0, none⟩ = some (.slice ra n rc) := by rw [World.cell?_setCell_other _ _ _ _ (by simp)]; exact World.cell?_setCell_same' _ _ _ (by rw [z0]; rfl)
    have r1 : ((w3.setCell ⟨R, 0, none⟩ (.slice ra n rc)).setCell ⟨R, 1, none⟩ (.int .i64 t)).cell? ⟨R, 1, none⟩ = some (.int .i64 t) := World.cell?_setCell_same' _ _ _ (by rw [World.cell?_setCell_other _ _ _ _ (by simp), z1]; rfl)
    refine bodyPost_ret (v := .agg #[.slice ra n rc, .int .i64 t]) (by simp [results, Try.results56, go_sem, r0, r1]) rfl ⟨_, rfl, ?_, ?_⟩
    · exact ((HR3.out.setCell (p := ⟨R, 0, none⟩) (.inl hRl) _).setCell (p := ⟨R, 1, none⟩) (.inl hRl) _).wide (by omega) (by simp [World.setCell])
    · exact (((B1.out.trans (HB3.out.mono (by omega))).setCell (p := ⟨R, 0, none⟩) (by show _ ≤ R; omega) _).setCell (p := ⟨R, 1, none⟩) (by show _ ≤ R; omega) _)

set_option maxRecDepth 100000 in
set_option maxHeartbeats 4000000 in
theorem icph_any (lo hi n : Nat) (v : Value) (t : Int) (C : List Int) (w : World) (hr : Row 1 w lo hi v n C) (hh : hi ≤ w.heap.size) : Calls Try.prog 57 #[.agg #[v, .int .i64 t]] w (HPost C t n w) := by
  have HR := Lib.hid hr
  obtain ⟨ad, cp, rfl, hn, hc⟩ := hr.opened
  have hl : C.length = n := by have := hr.1; omega
  have HL := Lib.hid hl
  clear hr hl
  go_enter Try.func57, Try.ntmps57
  go_upto_region 1 with fail
  obtain ⟨q1, hq1⟩ : ∃ q, q = ((w.alloc (.cells #[.slice ad n cp, .int .i64 t] 27)).alloc (.cells #[.slice none 0 0, .int .i64 0] 27)) := ⟨_, rfl⟩
  have hb1 : Below w.heap.size w q1 := by rw [hq1]; go_grown
  have sz1 : w.heap.size + 2 ≤ q1.heap.size := by rw [hq1]; simp
  have c1_0 : q1.cell? ⟨w.heap.size, 0, none⟩ = some (.slice ad n cp) := by rw [hq1, old_box (by simp <;> omega), new_at (by simp)]; rfl
  have c1_1 : q1.cell? ⟨w.heap.size, 1, none⟩ = some (.int .i64 t) := by rw [hq1, old_box (by simp <;> omega), new_at (by simp)]; rfl
  have c1_2 : q1.cell? ⟨w.heap.size + 1, 0, none⟩ = some (.slice none 0 0) := by rw [hq1, new_at (by simp)]; rfl
  have c1_3 : q1.cell? ⟨w.heap.size + 1, 1, none⟩ = some (.int .i64 0) := by rw [hq1, new_at (by simp)]; rfl
  have g1_0 : q1.frozen? ⟨w.heap.size + 1, 0, none⟩ = false := by rw [hq1, new_frz (by simp)]
  have g1_1 : q1.frozen? ⟨w.heap.size + 1, 1, none⟩ = false := by rw [hq1, new_frz (by simp)]
  have B1 : Hid (Below w.heap.size w q1) := Lib.hid hb1
  rw [← hq1]
  have d1_0 : w.heap.size < q1.heap.size := by omega
  have e1_0 : w.heap.size ≠ q1.heap.size := by omega
  have d1_1 : w.heap.size + 1 < q1.heap.size := by omega
  have e1_1 : w.heap.size + 1 ≠ q1.heap.size := by omega
  clear hq1 hb1
  obtain ⟨R, hR⟩ : ∃ R, R = w.heap.size + 1 := ⟨_, rfl⟩
  have hRl : R < q1.heap.size := by omega
  have hRw : w.heap.size < R := by omega
  have e0 : q1.cell? ⟨R, 0, none⟩ = some (.slice none 0 0) := by rw [hR]; exact c1_2
  have e1 : q1.cell? ⟨R, 1, none⟩ = some (.int .i64 0) := by rw [hR]; exact c1_3
  have g0 : q1.frozen? ⟨R, 0, none⟩ = false := by rw [hR]; exact g1_0
  have g1 : q1.frozen? ⟨R, 1, none⟩ = false := by rw [hR]; exact g1_1
  rw [← hR]
  clear hR c1_2 c1_3 g1_0 g1_1 d1_0 e1_0 d1_1 e1_1
  have dB : w.heap.size < q1.heap.size := by omega
  have nB : w.heap.size ≠ R := by omega
  obtain ⟨iI, hi0, hz0, hz1, hz2⟩ := info_parts Try.info3
  have I := Lib.hid (And.intro hi0 (And.intro hz0 (And.intro hz1 hz2)))
  clear hi0 hz0 hz1 hz2
  by_cases h0 : n = 0
  case pos =>
    subst h0
    obtain rfl : C = [] := List.eq_nil_of_length_eq_zero HL.out
    go_wp2_with fail
    go_region_law (refine step_append_zero rfl _ _ 24 rfl 0 3 iI 1 Try.underlying24 I.out.1 (.slice none 0 0) 0 [] rfl (World.ownsRow_nil _ _ _ _) ad cp rfl ?_)
    all_goals
      go_wp2_with fail
      have r0 : ((q1.setCell ⟨R, 0, none⟩ (.slice none 0 0)).setCell ⟨R, 1, none⟩ (.int .i64 t)).cell? ⟨R, 0, none⟩ = some (.slice none 0 0) := by rw [World.cell?_setCell_other _ _ _ _ (by simp)]; exact World.cell?_setCell_same' _ _ _ (by rw [e0]; rfl)
      have r1 : ((q1.setCell ⟨R, 0, none⟩ (.slice none 0 0)).setCell ⟨R, 1, none⟩ (.int .i64 t)).cell? ⟨R, 1, none⟩ = some (.int .i64 t) := World.cell?_setCell_same' _ _ _ (by rw [World.cell?_setCell_other _ _ _ _ (by simp), e1]; rfl)
      refine bodyPost_ret (v := .agg #[.slice none 0 0, .int .i64 t]) (by simp [results, Try.results57, go_sem, r0, r1]) rfl ⟨_, rfl, ?_, ?_⟩
      · exact Row.empty 1 _ _ _ _ _
      · exact (((B1.out.setCell (p := ⟨R, 0, none⟩) (by show _ ≤ R; omega) _).setCell (p := ⟨R, 1, none⟩) (by show _ ≤ R; omega) _)).drew
  case neg =>
  obtain ⟨g, rfl, hg, hcell⟩ := hc (by omega)
  have Hcell : Hid (∀ q z, C[q]? = some z → q1.cell? ⟨g, q, none⟩ = some (.int .i64 z)) := fun q z hz => by rw [B1.out.cell (p := ⟨g, q, none⟩) (by show g < _; omega)]; exact hcell q z hz
  clear hcell hc
  go_wp2_with fail
  have HN : Hid (∀ j u, (ints C)[j]? = some u → q1.drew.cell? ((⟨g, 0, none⟩ : Addr).add j) = some u) := fun j u hj => by
    rw [add_none]
    unfold ints at hj
    rw [List.getElem?_map] at hj
    cases hz : C[j]? with
    | none => rw [hz] at hj; cases hj
    | some z => rw [hz] at hj; have h1 := Hcell.out j z hz; show q1.cell? _ = _; rw [h1]; exact hj
  have HLc : Hid ((ints C).length = n * 1) := by show _ = _; rw [ints_len, HL.out, Nat.mul_one]
  have hn0 : 0 < n := by omega
  clear Hcell
  go_region_law (refine step_append_lies _ rfl _ _ 24 rfl q1.heap.size 3 iI (.int .i64 0) 1 8 Try.underlying24 I.out.1 I.out.2.1 I.out.2.2.1 I.out.2.2.2 rfl (by decide) (.slice none 0 0) 0 [] rfl (World.ownsRow_nil _ _ _ _) ⟨g, 0, none⟩ n cp (ints C) rfl HLc.out HN.out (ints_one _) hn0 (by unfold maxLen; omega) (by omega) (Nat.le_refl _) _ rfl ?_; intro g4 cap4 w4 hown4 hgrow4 hat4 hlt4; have HB4 : Hid (Below q1.heap.size q1 w4) := below_undrew ⟨hgrow4.os, hgrow4.tape, hgrow4.output, hgrow4.size, fun k hk => hgrow4.block k hk (by simp [Value.ownBlock])⟩; have HR4 : Hid (Row 1 w4 q1.heap.size w4.heap.size (.slice (some ⟨g4, 0, none⟩) (0 + n) cap4) (0 + n) C) := row_of_own hown4 (by omega); clear hown4 hgrow4 hat4 hlt4; rw [Nat.zero_add] at *; have x0 : w4.cell? ⟨w.heap.size, 0, none⟩ = some (.slice (some ⟨g, 0, none⟩) n cp) := (by rw [HB4.out.cell (p := ⟨w.heap.size, 0, none⟩) dB]; exact c1_0); have x1 : w4.cell? ⟨w.heap.size, 1, none⟩ = some (.int .i64 t) := (by rw [HB4.out.cell (p := ⟨w.heap.size, 1, none⟩) dB]; exact c1_1); have z0 : w4.cell? ⟨R, 0, none⟩ = some (.slice none 0 0) := (by rw [HB4.out.cell (p := ⟨R, 0, none⟩) hRl]; exact e0); have z1 : w4.cell? ⟨R, 1, none⟩ = some (.int .i64 0) := (by rw [HB4.out.cell (p := ⟨R, 1, none⟩) hRl]; exact e1); have y0 : w4.frozen? ⟨R, 0, none⟩ = false := (by rw [HB4.out.frozen (p := ⟨R, 0, none⟩) hRl]; exact g0); have y1 : w4.frozen? ⟨R, 1, none⟩ = false := (by rw [HB4.out.frozen (p := ⟨R, 1, none⟩) hRl]; exact g1))
  all_goals
    go_wp2_with fail
    have r0 : ((w4.setCell ⟨R, 0, none⟩ (.slice (some ⟨g4, 0, none⟩) n cap4)).setCell ⟨R, 1, none⟩ (.int .i64 t)).cell? ⟨R, 0, none⟩ = some (.slice (some ⟨g4, 0, none⟩) n cap4) := by rw [World.cell?_setCell_other _ _ _ _ (by simp)]; exact World.cell?_setCell_same' _ _ _ (by rw [z0]; rfl)
    have r1 : ((w4.setCell ⟨R, 0, none⟩ (.slice (some ⟨g4, 0, none⟩) n cap4)).setCell ⟨R, 1, none⟩ (.int .i64 t)).cell? ⟨R, 1, none⟩ = some (.int .i64 t) := World.cell?_setCell_same' _ _ _ (by rw [World.cell?_setCell_other _ _ _ _ (by simp), z1]; rfl)
    refine bodyPost_ret (v := .agg #[.slice (some ⟨g4, 0, none⟩) n cap4, .int .i64 t]) (by simp [results, Try.results57, go_sem, r0, r1]) rfl ⟨_, rfl, ?_, ?_⟩
    · exact ((HR4.out.setCell (p := ⟨R, 0, none⟩) (.inl hRl) _).setCell (p := ⟨R, 1, none⟩) (.inl hRl) _).wide (by omega) (by simp [World.setCell])
    · exact (((B1.out.trans (HB4.out.mono (by omega))).setCell (p := ⟨R, 0, none⟩) (by show _ ≤ R; omega) _).setCell (p := ⟨R, 1, none⟩) (by show _ ≤ R; omega) _)

end Go.Proofs.Ytcchoiobdcaboaa
