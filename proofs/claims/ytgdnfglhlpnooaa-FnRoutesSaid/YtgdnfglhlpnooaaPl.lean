/- A route is put into a list at its end, and into a list without room. -/
import Derived.Test.YtgdnfglhlpnooaaPk
namespace Go.Proofs.Ytgdnfglhlpnooaa
open Go.RowKit


theorem InsP.of_own {base n : Nat} {v : Value} {L : List Rt} {x0 x1 x2 : Int} {w w4 : World} {g4 cap4 : Nat} (hl : L.length = n) (hown4 : w4.ownsRow base 43 3 (.slice (some ⟨g4, 0, none⟩) (n + 1) cap4) (n + 1) (ints (flat L) ++ ints [x0, x1, x2])) (hg : w.grownBy w4 v.ownBlock) (hat : v.ownBlock = some g4 ∨ g4 = w.heap.size) : InsP base v (L ++ [(x0, x1, x2)]) w (.returned (.slice (some ⟨g4, 0, none⟩) (n + 1) cap4)) w4 := by
  have hlt := hown4.lt g4 rfl
  rw [← ints_app, show flat L ++ [x0, x1, x2] = flat (L ++ [(x0, x1, x2)]) by rw [flat_app]; rfl] at hown4
  obtain ⟨hb, _, _, _⟩ := Blk.start hown4
  have hlen : (L ++ [(x0, x1, x2)]).length = n + 1 := by rw [List.length_append, hl]; rfl
  cases ho : v.ownBlock with
  | none =>
    rw [ho] at hg hat
    have h2 : g4 = w.heap.size := by rcases hat with h | h; · cases h
                                     · exact h
    exact ⟨g4, cap4, w.heap.size, by rw [hlen], hlt.1, hlt.2, hb.frz, hb.cel, ⟨hg.os, hg.tape, hg.output, hg.size, fun k hk _ => hg.block k hk (by simp)⟩, .inr (Nat.le_refl _), .inr (by omega)⟩
  | some G =>
    rw [ho] at hg hat
    refine ⟨g4, cap4, G, by rw [hlen], hlt.1, hlt.2, hb.frz, hb.cel, ⟨hg.os, hg.tape, hg.output, hg.size, fun k hk hne => hg.block k hk (by simpa using hne)⟩, .inl ho, ?_⟩
    rcases hat with h | h
    · exact .inl (by simpa using h.symm)
    · exact .inr (by omega)

set_option maxRecDepth 100000 in
set_option maxHeartbeats 4000000 in
theorem ins_end (n V base : Nat) (v : Value) (L : List Rt) (x0 x1 x2 : Int) (w : World) (hown : w.ownsRow base 43 3 v n (ints (flat L))) (hL : L.length = n) (hn : n ≤ 1000) (hb : base ≤ w.heap.size)
    (hV : w.heap[V]? = some (.cells (ints [x0, x1, x2]).toArray 43 (0, 0))) :
    Calls Try.prog 63 #[v, .int .i64 (n : Int), .slice (some ⟨V, 0, none⟩) 1 1] w (InsP base v (L ++ [(x0, x1, x2)]) w) := by
  have hvc : Hid (∀ (j : Nat) u, (ints [x0, x1, x2])[j]? = some u → w.cell? ⟨V, j, none⟩ = some u) := fun j u hu => by
    rw [cell_of_row w V j _ 43 (0, 0) hV]
    simpa using hu
  obtain ⟨iI, hi0, hz0, hz1, hz2⟩ := info_parts Try.info43r
  have I := Lib.hid (And.intro hi0 (And.intro hz0 (And.intro hz1 hz2)))
  clear hi0 hz0 hz1 hz2
  have Hw := Lib.hid hown
  have HL := Lib.hid hL
  clear hV hL
  have p0 : (0 : Int) ≤ (n : Int) := by omega
  rcases hown.2 with ⟨rfl, rfl⟩ | ⟨g, cap, cur, rfl, _, _, hnc, hcm, _⟩
  · clear hown
    go_enter Try.func63, Try.ntmps63
    go_wp2_with (at_builtin; refine wpList_append_lies _ rfl _ _ 28 rfl base 43 iI (.agg #[.int .i64 0, .int .i64 0, .int .i64 0]) 3 24 Try.underlying28 I.out.1 I.out.2.1 I.out.2.2.1 I.out.2.2.2 rfl (by decide) (.slice none 0 0) 0 (ints (flat L)) rfl Hw.out ⟨V, 0, none⟩ 1 1 (ints [x0, x1, x2]) rfl rfl ?d0 (ints_one _) (by decide) ?d1 ?d2 hb _ rfl ?_)
    case d0 => exact fun j u hj => by rw [add_none]; exact hvc.out j u hj
    case d1 => unfold maxLen; omega
    case d2 => omega
    intro g4 cap4 w4 hown4 hgrow4 hat4 hlt4
    have HF := Lib.hid (InsP.of_own (v := .slice none 0 0) HL.out (by simpa using hown4) hgrow4 hat4)
    clear hown4 hgrow4 hat4 hlt4
    go_wp2_with fail
    go_ret
    exact HF.out
  · clear hown
    unfold maxLen at hcm
    by_cases hc : cap = n
    · subst hc
      have d0 : ((cap : Int) == (cap : Int)) = true := by simp
      go_enter Try.func63, Try.ntmps63
      go_wp2_with (at_builtin; refine wpList_append_lies _ rfl _ _ 28 rfl base 43 iI (.agg #[.int .i64 0, .int .i64 0, .int .i64 0]) 3 24 Try.underlying28 I.out.1 I.out.2.1 I.out.2.2.1 I.out.2.2.2 rfl (by decide) (.slice (some ⟨g, 0, none⟩) cap cap) cap (ints (flat L)) rfl Hw.out ⟨V, 0, none⟩ 1 1 (ints [x0, x1, x2]) rfl rfl ?d0 (ints_one _) (by decide) ?d1 ?d2 hb _ rfl ?_)
      case d0 => exact fun j u hj => by rw [add_none]; exact hvc.out j u hj
      case d1 => unfold maxLen; omega
      case d2 => omega
      intro g4 cap4 w4 hown4 hgrow4 hat4 hlt4
      have HF := Lib.hid (InsP.of_own (v := .slice (some ⟨g, 0, none⟩) cap cap) HL.out hown4 hgrow4 hat4)
      clear hown4 hgrow4 hat4 hlt4
      go_wp2_with fail
      go_ret
      exact HF.out
    · have p1 : (n : Int) ≤ (cap : Int) := by omega
      go_enter Try.func63, Try.ntmps63
      go_wp2_with (at_builtin; refine wpList_append_lies _ rfl _ _ 28 rfl base 43 iI (.agg #[.int .i64 0, .int .i64 0, .int .i64 0]) 3 24 Try.underlying28 I.out.1 I.out.2.1 I.out.2.2.1 I.out.2.2.2 rfl (by decide) (.slice (some ⟨g, 0, none⟩) n cap) n (ints (flat L)) rfl Hw.out ⟨V, 0, none⟩ 1 1 (ints [x0, x1, x2]) rfl rfl ?d0 (ints_one _) (by decide) ?d1 ?d2 hb _ rfl ?_)
      case d0 => exact fun j u hj => by rw [add_none]; exact hvc.out j u hj
      case d1 => unfold maxLen; omega
      case d2 => omega
      intro g4 cap4 w4 hown4 hgrow4 hat4 hlt4
      have HF := Lib.hid (InsP.of_own (v := .slice (some ⟨g, 0, none⟩) n cap) HL.out hown4 hgrow4 hat4)
      clear hown4 hgrow4 hat4 hlt4
      go_wp2_with fail
      go_ret
      exact HF.out

theorem Blk.grow1 {w wr : World} {G cap i : Nat} {L : List Rt} {x0 x1 x2 : Int} (h : Blk w wr G cap (L.take i)) (hi : i < L.length) (hroom : L.length + 1 ≤ cap) : Blk w (wr.setCells G (i * 3) (ints [x0, x1, x2])) G cap (L.take i ++ [(x0, x1, x2)]) := by
  have hfl := flat_len L
  refine h.put _ _ _ (by rw [ints_len]; simp; omega) (fun q z hz => ?_)
  have h3 : (ints [x0, x1, x2]).length = 3 := rfl
  rw [h3]
  rw [flat_app, flat_one, flat_take, List.getElem?_append, List.length_take, hfl, show min (i * 3) (L.length * 3) = i * 3 by omega] at hz
  rw [flat_take]
  split at hz
  · rename_i h1
    exact .inr ⟨.inl h1, hz⟩
  · rename_i h1
    have h2 := ints_at hz
    have h4 := (List.getElem?_eq_some_iff.1 h2).1
    rw [h3] at h4
    exact .inl ⟨by omega, by omega, h2⟩
theorem Blk.grow2 {w wr : World} {G cap i : Nat} {L : List Rt} {x0 x1 x2 : Int} (h : Blk w wr G cap (L.take i ++ [(x0, x1, x2)])) (hi : i < L.length) (hroom : L.length + 1 ≤ cap) : Blk w (wr.setCells G ((i + 1) * 3) (ints ((flat L).drop (i * 3)))) G cap (L.take i ++ (x0, x1, x2) :: L.drop i) := by
  have hfl := flat_len L
  have hvl : (ints ((flat L).drop (i * 3))).length = (L.length - i) * 3 := by rw [ints_len, List.length_drop, hfl]; omega
  refine h.put _ _ _ (by rw [hvl]; omega) (fun q z hz => ?_)
  rw [show L.take i ++ (x0, x1, x2) :: L.drop i = (L.take i ++ [(x0, x1, x2)]) ++ L.drop i by simp, flat_app, flat_drop, List.getElem?_append, flat_len, List.length_append, List.length_take, show min i L.length = i by omega, List.length_singleton] at hz
  split at hz
  · rename_i h1
    exact .inr ⟨.inl h1, hz⟩
  · rename_i h1
    have h2 := ints_at hz
    have h3 := (List.getElem?_eq_some_iff.1 h2).1
    exact .inl ⟨by omega, by omega, h2⟩
set_option maxRecDepth 100000 in
set_option maxHeartbeats 4000000 in
theorem ins_grow (G n cap i V base : Nat) (L : List Rt) (x0 x1 x2 : Int) (w : World) (h : Blk w w G cap L) (hL : L.length = n) (hi : i < n) (hn : n ≤ 1000) (hnc : n ≤ cap) (hroom : cap < n + 1) (hb : base ≤ w.heap.size)
    (hV : w.heap[V]? = some (.cells (ints [x0, x1, x2]).toArray 43 (0, 0))) (hVw : V < w.heap.size) :
    Calls Try.prog 63 #[.slice (some ⟨G, 0, none⟩) n cap, .int .i64 (i : Int), .slice (some ⟨V, 0, none⟩) 1 1] w (InsP base (.slice (some ⟨G, 0, none⟩) n cap) (L.take i ++ (x0, x1, x2) :: L.drop i) w) := by
  obtain rfl : n = cap := by omega
  have hfl := flat_len L
  have hGw := h.lt
  have hvc : ∀ (j : Nat) u, (ints [x0, x1, x2])[j]? = some u → w.cell? ⟨V, j, none⟩ = some u := fun j u hu => by
    rw [cell_of_row w V j _ 43 (0, 0) hV]
    simpa using hu
  obtain ⟨iI, hi0, hz0, hz1, hz2⟩ := info_parts Try.info43r
  have I := Lib.hid (And.intro hi0 (And.intro hz0 (And.intro hz1 hz2)))
  clear hi0 hz0 hz1 hz2
  have hkk : (n : Int) + 1 - (i : Int) = ((n + 1 - i : Nat) : Int) := by omega
  have hik : i + (n + 1 - i) = n + 1 := by omega
  have hol : (ints ((flat L).take (i * 3))).length = i * 3 := by rw [ints_len, List.length_take, hfl]; omega
  have hold : (Builtin.firstCells iI.size i (.slice (some ⟨G, 0, none⟩) i n)).run Try.prog w.drew = .ok (ints ((flat L).take (i * 3))).toArray w.drew := by
    rw [I.out.2.2.1]
    exact run_firstCells_some w.drew 3 i ⟨G, 0, none⟩ i n (ints ((flat L).take (i * 3))) hol (fun j u hj => by
      rw [add_none]
      unfold ints at hj
      rw [List.getElem?_map, List.getElem?_take] at hj
      split at hj
      · cases hz : (flat L)[j]? with
        | none => rw [hz] at hj; cases hj
        | some z => rw [hz] at hj; rw [← hj]; exact h.drew.cel j z hz
      · cases hj)
  obtain ⟨ROW, hROW⟩ : ∃ ROW : Array Value, ROW = (ints ((flat L).take (i * 3))).toArray ++ Builtin.zeroCells (Value.cells (.agg #[.int .i64 0, .int .i64 0, .int .i64 0])) (n + 1 - i) ++ Builtin.zeroCells (Value.cells (.agg #[.int .i64 0, .int .i64 0, .int .i64 0])) (grownCap w (n + 1) n 43 - (n + 1)) := ⟨_, rfl⟩
  have hrz : ∀ ty, (Builtin.append_ #[28, 3] ty #[.slice (some ⟨G, 0, none⟩) i n, .int .i64 ((n : Int) + 1 - (i : Int))]).run Try.prog w = .ok (.slice (some ⟨w.heap.size, 0, none⟩) (n + 1) (grownCap w (n + 1) n 43)) (w.drew.alloc (.cells ROW 43)) := fun ty => by
    have hh := Lib.run_append_grow_zeros w 28 3 ty 43 iI (.agg #[.int .i64 0, .int .i64 0, .int .i64 0]) .i64 .i64 Try.underlying28 Try.underlying3 I.out.1 I.out.2.1 (some ⟨G, 0, none⟩) i n (ints ((flat L).take (i * 3))) hold (n + 1 - i) (by omega) (by rw [I.out.2.2.1]; omega) (by omega) (by omega) (by rw [I.out.2.2.2]; omega) (by rw [I.out.2.2.2, hik]; exact growslice_fits (by omega) (by omega))
    rw [hik, ← hROW] at hh
    rw [hkk]
    exact hh
  obtain ⟨Gc, hGc⟩ : ∃ Gc, Gc = grownCap w (n + 1) n 43 := ⟨_, rfl⟩
  have hGn : n + 1 ≤ Gc := by rw [hGc]; exact grownCap_ge w _ _ _
  have hG63 : Gc ≤ 9223372036854775807 := by
    have := grownCap_le_maxLen w (n + 1) n 43 (by unfold maxLen; omega)
    rw [← hGc] at this
    unfold maxLen at this
    omega
  rw [← hGc] at hrz hROW
  have hRs : ROW.size = Gc * 3 := by
    rw [hROW]
    simp only [Array.size_append, List.size_toArray, hol]
    simp [Builtin.zeroCells, Value.cells]
    omega
  obtain ⟨W1, hW1⟩ : ∃ W1, W1 = w.drew.alloc (.cells ROW 43) := ⟨_, rfl⟩
  rw [← hW1] at hrz
  have hc1 : ∀ q, W1.cell? ⟨w.heap.size, q, none⟩ = ROW[q]? := fun q => by rw [hW1]; exact World.cell?_alloc_at (w := w.drew) ROW _ w.heap.size q rfl
  have hBk : Blk W1 W1 w.heap.size Gc (L.take i) := by
    refine ⟨(Only.refl _ _).else_, fun q => by rw [hW1]; exact World.frozen?_alloc_at (w := w.drew) ROW _ w.heap.size q rfl, fun q z hz => ?_, fun q hq => by rw [hc1, Array.getElem?_eq_getElem (by omega)]; rfl, by rw [hW1]; simp⟩
    rw [flat_take] at hz
    have h1 := ints_at hz
    have h2 := (List.getElem?_eq_some_iff.1 h1).1
    rw [hc1, hROW, Array.getElem?_append, if_pos (by simp only [Array.size_append, List.size_toArray]; omega), Array.getElem?_append, if_pos (by simp only [List.size_toArray]; omega)]
    simpa using h1
  have hBelow : Below w.heap.size w W1 := by rw [hW1]; exact (Below.refl _ _).drew.alloc (Nat.le_refl _) _
  have hB2 := hBk.grow1 (x0 := x0) (x1 := x1) (x2 := x2) (by omega) (by omega)
  have hcpA : ∀ ty dc, (Builtin.copy_ #[28, 28] ty #[.slice (some ⟨w.heap.size, i * 3, none⟩) (n + 1 - i) dc, .slice (some ⟨V, 0, none⟩) 1 1]).run Try.prog W1 = .ok (goInt 1) (W1.setCells w.heap.size (i * 3) (ints [x0, x1, x2])) := fun ty dc => by
    refine run_copy3 W1 28 28 ty w.heap.size (i * 3) (n + 1 - i) dc ⟨V, 0, none⟩ 1 1 1 _ Try.underlying28 (by simp only [Nat.min_def]; split <;> omega) rfl (fun j u hj => ?_) (fun j hj => hBk.som _ (by have h3 : (ints [x0, x1, x2]).length = 3 := rfl; omega)) (fun j _ => hBk.frz _) (ints_one _)
    rw [add_none, hBelow.cell (p := ⟨V, j, none⟩) hVw]
    exact hvc j u hj
  obtain ⟨W2, hW2⟩ : ∃ W2, W2 = W1.setCells w.heap.size (i * 3) (ints [x0, x1, x2]) := ⟨_, rfl⟩
  rw [← hW2] at hcpA hB2
  have hB3 := hB2.drew.grow2 (by omega) (by omega)
  have hGN : G ≠ w.heap.size := by omega
  have hdl : (ints ((flat L).drop (i * 3))).length = (n - i) * 3 := by rw [ints_len, List.length_drop, hfl]; omega
  have hcpB : ∀ ty dc sc, (Builtin.copy_ #[28, 28] ty #[.slice (some ⟨w.heap.size, (i + 1) * 3, none⟩) (n - i) dc, .slice (some ⟨G, i * 3, none⟩) (n - i) sc]).run Try.prog W2.drew = .ok (goInt (n - i : Nat)) (W2.drew.setCells w.heap.size ((i + 1) * 3) (ints ((flat L).drop (i * 3)))) := fun ty dc sc => by
    refine run_copy3 W2.drew 28 28 ty w.heap.size ((i + 1) * 3) (n - i) dc ⟨G, i * 3, none⟩ (n - i) sc (n - i) _ Try.underlying28 (by simp only [Nat.min_def]; split <;> omega) hdl (fun j u hj => ?_) (fun j hj => hB2.drew.som _ (by rw [hdl] at hj; omega)) (fun j _ => hB2.drew.frz _) (ints_one _)
    unfold ints at hj
    rw [List.getElem?_map, List.getElem?_drop] at hj
    cases hz : (flat L)[i * 3 + j]? with
    | none => rw [hz] at hj; cases hj
    | some z =>
      rw [hz] at hj
      have ea : (⟨G, i * 3, none⟩ : Addr).add j = ⟨G, i * 3 + j, none⟩ := by
        unfold Addr.add
        split
        · rename_i h0; subst h0; rfl
        · rfl
      rw [ea, ← hj]
      show W2.cell? _ = _
      rw [hB2.els.cell (b := G) (Nat.lt_of_lt_of_le hGw hBelow.size) hGN, hBelow.cell (p := ⟨G, i * 3 + j, none⟩) hGw]
      exact h.cel _ z hz
  have HP : Hid (InsP base (.slice (some ⟨G, 0, none⟩) n n) (L.take i ++ (x0, x1, x2) :: L.drop i) w (.returned (.slice (some ⟨w.heap.size, 0, none⟩) (n + 1) Gc)) (W2.drew.setCells w.heap.size ((i + 1) * 3) (ints ((flat L).drop (i * 3))))) :=
    ⟨w.heap.size, Gc, G, by rw [show (L.take i ++ (x0, x1, x2) :: L.drop i).length = n + 1 by rw [List.length_append, List.length_cons, List.length_take, List.length_drop]; omega], hb, hB3.size, hB3.frz, hB3.cel, ⟨hB3.els.1.trans hBelow.os, hB3.els.2.1.trans hBelow.tape, hB3.els.2.2.1.trans hBelow.output, Nat.le_trans hBelow.size hB3.els.2.2.2.1, fun k hk _ => (hB3.els.2.2.2.2 k (Nat.lt_of_lt_of_le hk hBelow.size) (by omega)).trans (hBelow.block k hk)⟩, .inl rfl, .inr (Nat.le_refl _)⟩
  have HH := Lib.hid (And.intro hW1 (And.intro hW2 (And.intro hROW hGc)))
  clear hB2 hB3 hBk hBelow hdl hvc hfl hL h hV hc1 hRs hol hold hROW hGc hW1 hW2 hik hkk hGw hGN hVw
  have p0 : (0 : Int) ≤ (i : Int) := by omega
  have p1 : (i : Int) ≤ (n : Int) := by omega
  have p4 : (0 : Int) ≤ (i : Int) + 1 := by omega
  have p5 : ((i : Int) + 1).toNat = i + 1 := by omega
  have p9 : (i : Int) ≤ (n : Int) + 1 := by omega
  have d0 : ((i : Int) == (n : Int)) = false := by simp; omega
  have d1 : (i == n) = false := by simp; omega
  have e1 : ¬ n = i := by omega
  have e3 : ¬ Gc = i := by omega
  have e4 : ¬ Gc = i + 1 := by omega
  have q1 : (n : Int) + 1 ≤ (Gc : Int) := by omega
  clear hb hnc hroom
  go_enter Try.func63, Try.ntmps63
  go_wp2_with (first
    | (at_builtin; refine Lib.wpList_append_run _ rfl _ _ _ _ rfl _ _ rfl rfl _ _ (hrz _) ?_)
    | (at_builtin; refine wpList_copy_runI _ rfl _ _ 28 28 rfl _ _ rfl rfl (hcpA _ _) ?_))
  have w1 : IntKind.i64.wrap ((i : Int) + 1) = (i : Int) + 1 := IntWalk.i64_in _ (by omega)
  go_region_law ((refine step_copy_runI rfl _ _ 28 28 rfl _ _ (by simp [Act.eval, Act.put]) (by simp [Act.eval, Act.put]) (hcpB _ _ _) ?_))
  all_goals
    go_wp2_with fail
    go_ret
    exact HP.out

end Go.Proofs.Ytgdnfglhlpnooaa
