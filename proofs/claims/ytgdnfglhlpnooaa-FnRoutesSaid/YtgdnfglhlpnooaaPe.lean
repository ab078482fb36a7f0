/- A route is taken out of a table: the block of one's own; slices.Delete. -/
import Derived.Test.YtgdnfglhlpnooaaQm
import Derived.Test.YtgdnfglhlpnooaaPc
import Derived.Laws.IdiomCopy
import Derived.Deep.MidRow
import Derived.Lib.SliceRun
namespace Go.Proofs.Ytgdnfglhlpnooaa
open Go.RowKit

theorem zeroCells_mem {zs : Array Value} {n : Nat} {v : Value} (hz : 0 < zs.size) (h : v ∈ (Builtin.zeroCells zs n).toList) : v ∈ zs.toList := by
  simp [Builtin.zeroCells] at h
  obtain ⟨i, _, rfl⟩ := h
  have hi : i % zs.size < zs.size := Nat.mod_lt _ hz
  rw [getElem!_pos zs (i % zs.size) hi]
  exact Array.getElem_mem_toList _
theorem zeroCells_len (zs : Array Value) (n : Nat) : (Builtin.zeroCells zs n).toList.length = n * zs.size := by simp [Builtin.zeroCells]
theorem run_clear3 {P : Program} (w : World) (t e ty : TypeId) (z : Value) (ht : P.underlying t = some (.slice e)) (hv : ∀ w, (zeroValue e).run P w = .ok z w) (hz : 0 < z.cells.size) (h1 : ∀ v ∈ z.cells.toList, v.oneCell' = true) (b o n c : Nat) (hn : 0 < n)
    (hc : ∀ j, j < n * z.cells.size → (w.cell? ⟨b, o + j, none⟩).isSome = true) (hf : ∀ j, j < n * z.cells.size → w.frozen? ⟨b, o + j, none⟩ = false) :
    (Builtin.clear_ #[t] ty #[.slice (some ⟨b, o, none⟩) n c]).run P w = .ok (.tuple #[]) (w.setCells b o (Builtin.zeroCells z.cells n).toList) := by
  have hl := zeroCells_len z.cells n
  have hst := run_storeCells_cells (P := P) b o (Builtin.zeroCells z.cells n).toList 0 w (by rw [hl]; simpa using hc) (by rw [hl]; simpa using hf) (fun v hv' => h1 v (zeroCells_mem hz hv'))
  simp only [Nat.add_zero] at hst
  obtain ⟨m, rfl⟩ : ∃ m, n = m + 1 := ⟨n - 1, by omega⟩
  simp [Builtin.clear_, run_underlying ht, hv, hst]
theorem Else.setCell {g : Nat} {w w' : World} (h : Else g w w') (o : Nat) (u : Value) : Else g w (w'.setCell ⟨g, o, none⟩ u) :=
  ⟨h.1, h.2.1, h.2.2.1, by simpa [World.setCell] using h.2.2.2.1, fun b hb hg => by rw [Below.heap_setCell _ _ _ _ hg]; exact h.2.2.2.2 b hb hg⟩
theorem Else.setCells {g : Nat} {w : World} : ∀ (vs : List Value) (o : Nat) {w' : World}, Else g w w' → Else g w (w'.setCells g o vs)
  | [], _, _, h => h
  | v :: r, o, _, h => Else.setCells r (o + 1) (h.setCell o v)

theorem Try.zero43r : ∀ w, (zeroValue 43).run Try.prog w = .ok (.agg #[.int .i64 0, .int .i64 0, .int .i64 0]) w := fun _ => by kernel_rfl
theorem three_one (x y z : Int) : ∀ u ∈ [Value.int .i64 x, Value.int .i64 y, Value.int .i64 z], u.oneCell' = true := by
  intro u hu
  simp at hu
  rcases hu with rfl | rfl | rfl <;> rfl
/-- A block of one's own in which the routes M stand; all else is as it was at w. -/
structure Blk (w wr : World) (G cap : Nat) (M : List Rt) : Prop where
  els : Else G w wr
  frz : ∀ o, wr.frozen? ⟨G, o, none⟩ = false
  cel : ∀ q z, (flat M)[q]? = some z → wr.cell? ⟨G, q, none⟩ = some (.int .i64 z)
  som : ∀ q, q < cap * 3 → (wr.cell? ⟨G, q, none⟩).isSome = true
  lt : G < w.heap.size
theorem Blk.start {w : World} {G n cap base : Nat} {L : List Rt} (h : w.ownsRow base 43 3 (.slice (some ⟨G, 0, none⟩) n cap) n (ints (flat L))) : Blk w w G cap L ∧ n ≤ cap ∧ cap ≤ maxLen ∧ L.length = n := by
  have hlt := (h.lt G rfl).2
  have hcells := fun g hg => h.cells (g := g) hg
  have hl := h.1
  rw [ints_len, flat_len] at hl
  rcases h.2 with ⟨h1, _⟩ | ⟨g, cap', cur, hv, h3, h4, h5, h6, h7, h8⟩
  · cases h1
  · obtain ⟨rfl, rfl⟩ : G = g ∧ cap = cap' := by simpa using hv
    refine ⟨⟨(Only.refl G w).else_, fun o => by simp [World.frozen?, h4], fun q z hz => ?_, fun q hq => ?_, hlt⟩, h5, h6, by omega⟩
    · have c0 := hcells G rfl _ _ (ints_at hz)
      rw [add_none] at c0
      exact c0
    · rw [cell_of_row w G q cur 43 (0, 0) h4, Array.getElem?_eq_getElem (by omega)]
      rfl
theorem Blk.drew {w wr : World} {G cap : Nat} {M : List Rt} (h : Blk w wr G cap M) : Blk w wr.drew G cap M := ⟨⟨h.els.1, h.els.2.1, h.els.2.2.1, h.els.2.2.2.1, h.els.2.2.2.2⟩, h.frz, h.cel, h.som, h.lt⟩
theorem Blk.size {w wr : World} {G cap : Nat} {M : List Rt} (h : Blk w wr G cap M) : G < wr.heap.size := Nat.lt_of_lt_of_le h.lt h.els.2.2.2.1
theorem Blk.put {w wr : World} {G cap : Nat} {M : List Rt} (h : Blk w wr G cap M) (o : Nat) (vs : List Value) (M' : List Rt) (hfit : o + vs.length ≤ cap * 3)
    (hM : ∀ q z, (flat M')[q]? = some z → (o ≤ q ∧ q < o + vs.length ∧ vs[q - o]? = some (.int .i64 z)) ∨ ((q < o ∨ o + vs.length ≤ q) ∧ (flat M)[q]? = some z)) : Blk w (wr.setCells G o vs) G cap M' := by
  refine ⟨h.els.setCells vs o, fun q => by rw [World.frozen?_setCells]; exact h.frz q, fun q z hz => ?_, fun q hq => World.isSome_setCells G vs o wr _ (h.som q hq), h.lt⟩
  rcases hM q z hz with ⟨h1, h2, h3⟩ | ⟨h1, h2⟩
  · have := World.cell?_setCells_in G vs o wr (fun j hj => h.som _ (by omega)) (q - o) (by omega)
    rw [show o + (q - o) = q by omega] at this
    rw [this, ← h3, List.getElem?_eq_getElem (by omega)]
  · rw [World.cell?_setCells_out G vs o wr ⟨G, q, none⟩ (fun _ _ => h1)]
    exact h.cel q z h2
theorem Blk.row {w wr : World} {G cap lo hi m : Nat} {M : List Rt} (h : Blk w wr G cap M) (hm : M.length = m) (hl : m ≤ 1100000) (h1 : lo ≤ G) (h2 : G < hi) : Row 3 wr lo hi (.slice (some ⟨G, 0, none⟩) m cap) m (flat M) :=
  ⟨by rw [flat_len, hm], .inr ⟨G, cap, rfl, h1, h2, hl, h.cel, h.frz⟩⟩
theorem flat_take : ∀ (L : List Rt) (i : Nat), flat (L.take i) = (flat L).take (i * 3)
  | [], i => by simp [flat]
  | r :: L, 0 => by simp [flat]
  | r :: L, i + 1 => by
    rw [List.take_succ_cons, flat_cons, flat_cons, flat_take L i, show (i + 1) * 3 = i * 3 + 1 + 1 + 1 by omega]
    rfl
theorem flat_drop : ∀ (L : List Rt) (i : Nat), flat (L.drop i) = (flat L).drop (i * 3)
  | [], i => by simp [flat]
  | r :: L, 0 => by simp
  | r :: L, i + 1 => by
    rw [List.drop_succ_cons, flat_cons, flat_drop L i, show (i + 1) * 3 = i * 3 + 1 + 1 + 1 by omega]
    rfl
theorem flat_erase (L : List Rt) (i : Nat) : flat (L.eraseIdx i) = (flat L).take (i * 3) ++ (flat L).drop ((i + 1) * 3) := by
  rw [List.eraseIdx_eq_take_drop_succ, flat_app, flat_take, flat_drop]
theorem step_append_zero {ops : Array Oper} {o : Oper} {a : Act} {w : World} {K : Act → World → Prop} {Q : Exit → Act → World → Prop} {E : Prop}
    (hg : o.guard = none) (s x : Operand) (t : TypeId) (hop : o.op = Op.call { callee := Callee.builtin Builtin.append, args := #[s, x], argTypes := #[t, t] })
    (e : TypeId) (i : TypeInfo) (h1 : Try.prog.underlying t = some (.slice e)) (h2 : Try.prog.info? e = some i)
    (b off n cap : Nat) (hs : a.eval s = .slice (some ⟨b, off, none⟩) n cap) (p : Option Addr) (c : Nat) (hx : a.eval x = .slice p 0 c) (hn : n ≤ cap)
    (hK : K (a.put o.dst (.slice (some ⟨b, off, none⟩) n cap)) w) :
    if Region.wanted o (yielded ops a.tmps) = true then Oper.wp Try.prog o a w K Q else E := by
  have hw : Region.wanted o (yielded ops a.tmps) = true := by simp [Region.wanted, hg]
  rw [if_pos hw]
  have hrun : (Builtin.append_ #[t, t] o.type #[.slice (some ⟨b, off, none⟩) n cap, .slice p 0 c]).run Try.prog w = .ok (.slice (some ⟨b, off, none⟩) n cap) w := by
    cases p <;> simp [Builtin.append_, run_underlying h1, sizeOf, typeInfo, h2, Builtin.lenOf, Builtin.firstCells, hn, storeCells, loadCells, loadCellsFrom]
  unfold Oper.wp
  simp [execOp, hop, resolve, invoke, builtin, hs, hx, hrun, Result.andThen]
  exact hK

set_option maxRecDepth 100000 in
set_option maxHeartbeats 4000000 in
theorem del_any (G n cap i : Nat) (L : List Rt) (w : World) (h : Blk w w G cap L) (hnc : n ≤ cap) (hcm : cap ≤ maxLen) (hL : L.length = n) (hi : i < n) :
    Calls Try.prog 58 #[.slice (some ⟨G, 0, none⟩) n cap, .int .i64 (i : Int), .int .i64 ((i : Int) + 1)] w fun e w' => e = .returned (.slice (some ⟨G, 0, none⟩) (n - 1) cap) ∧ Blk w w' G cap (L.eraseIdx i) := by
  unfold maxLen at hcm
  have HB := Lib.hid h
  obtain ⟨iI, hi0, hz0, hz1, hz2⟩ := info_parts Try.info43r
  have I := Lib.hid (And.intro hi0 (And.intro hz0 (And.intro hz1 hz2)))
  clear hi0 hz0 hz1 hz2
  obtain ⟨m, hm⟩ : ∃ m, m = n - 1 := ⟨_, rfl⟩
  have HM : Hid (n = m + 1 ∧ n ≤ cap ∧ i < L.length ∧ L.length = n) := ⟨by omega, hnc, by omega, hL⟩
  have hfl := flat_len L
  have HFL : Hid ((flat L).length = n * 3) := by show _ = _; rw [hfl, hL]
  have p0 : (0 : Int) ≤ (i : Int) := by omega
  have p1 : (i : Int) < (n : Int) := by omega
  have p2 : (i : Int) ≤ (n : Int) := by omega
  have p3 : (i : Int) + 1 ≤ (n : Int) := by omega
  have p4 : (0 : Int) ≤ (i : Int) + 1 := by omega
  have p5 : ((i : Int) + 1).toNat = i + 1 := by omega
  have p6 : (n : Int) ≤ (cap : Int) := by omega
  have p7 : (i : Int) ≤ (cap : Int) := by omega
  have p8 : (i : Int) ≤ (i : Int) + 1 := by omega
  have p9 : (i : Int) + 1 ≤ (cap : Int) := by omega
  have d0 : ((i : Int) == (i : Int) + 1) = false := by simp; omega
  have e0 : ¬ n = i := by omega
  have e1 : ¬ cap = i := by omega
  have e2 : n - i ≠ 0 := by omega
  rw [← hm]
  clear h hL hfl
  have HE := Lib.hid e0
  by_cases hlast : i + 1 = n
  case pos =>
    obtain rfl : i = m := by omega
    have HB5 : Hid (Blk w w.drew G cap (L.eraseIdx i)) := by
      refine Lib.hid ?_
      have hb := HB.out.drew
      refine ⟨hb.els, hb.frz, fun q z hz => ?_, hb.som, hb.lt⟩
      refine hb.cel q z ?_
      rw [flat_erase, List.drop_eq_nil_of_le (by rw [HFL.out]; omega), List.append_nil] at hz
      rw [List.getElem?_take] at hz
      split at hz
      · exact hz
      · cases hz
    have e3 : n - i = 1 := by omega
    have e4 : n - (i + 1) = 0 := by omega
    have p10 : (i : Int) + 1 = (n : Int) := by omega
    have HP := Lib.hid p10
    clear hlast hm p10
    by_cases hci : cap = i + 1
    case pos =>
      subst hci
      go_enter Try.func58, Try.ntmps58
      go_wp2_with fail
      go_region_law ((refine step_append_zero rfl (.tmp 22) (.tmp 25) 28 rfl 43 iI Try.underlying28 I.out.1 G 0 i (i + 1) (by simp [Act.eval, Act.put]) _ _ rfl (by omega) ?_))
      all_goals
        have hcl : ∀ ty c, (Builtin.clear_ #[28] ty #[.slice (some ⟨G, i * 3, none⟩) 1 c]).run Try.prog w.drew = .ok (.tuple #[]) (w.drew.setCells G (i * 3) (Builtin.zeroCells #[.int .i64 0, .int .i64 0, .int .i64 0] 1).toList) := fun ty c =>
          run_clear3 w.drew 28 43 ty (.agg #[.int .i64 0, .int .i64 0, .int .i64 0]) Try.underlying28 Try.zero43r (by decide) (three_one 0 0 0) G (i * 3) 1 c (by omega) (fun j hj => HB5.out.som _ (by have hj' : j < 1 * 3 := hj; have := HM.out.1; have := HM.out.2.1; omega)) (fun j _ => HB5.out.frz _)
        have HF : Hid (Blk w (w.drew.setCells G (i * 3) (Builtin.zeroCells #[.int .i64 0, .int .i64 0, .int .i64 0] 1).toList) G (i + 1) (L.eraseIdx i)) := HB5.out.put _ _ _ (by have h3 : (Builtin.zeroCells #[Value.int .i64 0, .int .i64 0, .int .i64 0] 1).toList.length = 3 := (zeroCells_len _ _).trans rfl; rw [h3]; have := HM.out.1; have := HM.out.2.1; omega) (fun q z hz => .inr ⟨.inl (by have h1 := (List.getElem?_eq_some_iff.1 hz).1; rw [flat_len, List.length_eraseIdx, if_pos HM.out.2.2.1] at h1; have := HM.out.1; have := HM.out.2.2.2; omega), hz⟩)
        go_wp2_with fail
        go_ret
        exact ⟨rfl, HF.out⟩
    case neg =>
      go_enter Try.func58, Try.ntmps58
      go_wp2_with fail
      go_region_law ((refine step_append_zero rfl (.tmp 22) (.tmp 25) 28 rfl 43 iI Try.underlying28 I.out.1 G 0 i cap (by simp [Act.eval, Act.put]) _ _ rfl (by omega) ?_))
      all_goals
        have hcl : ∀ ty c, (Builtin.clear_ #[28] ty #[.slice (some ⟨G, i * 3, none⟩) 1 c]).run Try.prog w.drew = .ok (.tuple #[]) (w.drew.setCells G (i * 3) (Builtin.zeroCells #[.int .i64 0, .int .i64 0, .int .i64 0] 1).toList) := fun ty c =>
          run_clear3 w.drew 28 43 ty (.agg #[.int .i64 0, .int .i64 0, .int .i64 0]) Try.underlying28 Try.zero43r (by decide) (three_one 0 0 0) G (i * 3) 1 c (by omega) (fun j hj => HB5.out.som _ (by have hj' : j < 1 * 3 := hj; have := HM.out.1; have := HM.out.2.1; omega)) (fun j _ => HB5.out.frz _)
        have HF : Hid (Blk w (w.drew.setCells G (i * 3) (Builtin.zeroCells #[.int .i64 0, .int .i64 0, .int .i64 0] 1).toList) G cap (L.eraseIdx i)) := HB5.out.put _ _ _ (by have h3 : (Builtin.zeroCells #[Value.int .i64 0, .int .i64 0, .int .i64 0] 1).toList.length = 3 := (zeroCells_len _ _).trans rfl; rw [h3]; have := HM.out.1; have := HM.out.2.1; omega) (fun q z hz => .inr ⟨.inl (by have h1 := (List.getElem?_eq_some_iff.1 hz).1; rw [flat_len, List.length_eraseIdx, if_pos HM.out.2.2.1] at h1; have := HM.out.1; have := HM.out.2.2.2; omega), hz⟩)
        go_wp2_with fail
        go_ret
        exact ⟨rfl, HF.out⟩
  case neg =>
    obtain ⟨d, hd⟩ : ∃ d, d = n - (i + 1) := ⟨_, rfl⟩
    have HD : Hid (i + d = m) := by show i + d = m; omega
    obtain ⟨vs, hvs⟩ : ∃ vs, vs = (ints (flat L)).drop ((i + 1) * 3) := ⟨_, rfl⟩
    have hvl : vs.length = d * 3 := by rw [hvs, List.length_drop, ints_len, HFL.out]; omega
    have HV : Hid (vs = (ints (flat L)).drop ((i + 1) * 3)) := hvs
    have HVL := Lib.hid hvl
    have HDN : Hid (i + 1 + d = n ∧ 0 < d) := ⟨by omega, by omega⟩
    have e3 : n - (i + 1) = d := hd.symm
    have e4 : ¬ cap = i + 1 := by omega
    have e6 : n - m = 1 := by omega
    have e7 : ¬ cap = m := by omega
    have q1 : (0 : Int) ≤ (m : Int) := by omega
    have q2 : (m : Int) ≤ (n : Int) := by omega
    have q3 : (m : Int) ≤ (cap : Int) := by omega
    have H0 := Lib.hid hlast
    clear hm hlast hd hvs hvl
    have HB5 : Hid (Blk w (w.drew.setCells G (0 + i * 3) vs) G cap (L.eraseIdx i)) := by
      refine Lib.hid (HB.out.drew.put (0 + i * 3) vs (L.eraseIdx i) (by rw [HVL.out]; have := HDN.out; have := HM.out.2.1; omega) (fun q z hz => ?_))
      rw [flat_erase, List.getElem?_append, List.length_take, HFL.out] at hz
      have hmin : min (i * 3) (n * 3) = i * 3 := by have := HDN.out; omega
      rw [hmin] at hz
      split at hz
      · rename_i h1
        rw [List.getElem?_take, if_pos h1] at hz
        exact .inr ⟨.inl (by omega), hz⟩
      · rename_i h1
        have h2 : vs[q - i * 3]? = some (.int .i64 z) := by
          rw [HV.out, List.getElem?_drop]
          rw [List.getElem?_drop] at hz
          exact ints_at hz
        have h3 := (List.getElem?_eq_some_iff.1 h2).1
        exact .inl ⟨by omega, by omega, by rw [Nat.zero_add]; exact h2⟩
    have Hn1 : Hid (∀ (j : Nat) (u : Value), vs[j]? = some u → w.drew.cell? ((⟨G, (i + 1) * 3, none⟩ : Addr).add j) = some u) := by
      refine Lib.hid (fun j u hj => ?_)
      rw [HV.out, List.getElem?_drop] at hj
      have ea : (⟨G, (i + 1) * 3, none⟩ : Addr).add j = ⟨G, (i + 1) * 3 + j, none⟩ := by
        unfold Addr.add
        split
        · rename_i h0; subst h0; rfl
        · rfl
      rw [ea]
      unfold ints at hj
      rw [List.getElem?_map] at hj
      cases hz : (flat L)[(i + 1) * 3 + j]? with
      | none => rw [hz] at hj; cases hj
      | some z => rw [hz] at hj; rw [← hj]; exact HB.out.drew.cel _ z hz
    have Hn2 : Hid (∀ u ∈ vs, u.oneCell' = true) := by
      refine Lib.hid (fun u hu => ints_one (flat L) u ?_)
      rw [HV.out] at hu
      exact List.mem_of_mem_drop hu
    have Hn3 : Hid (∀ j, j < vs.length → (w.drew.cell? ⟨G, 0 + i * 3 + j, none⟩).isSome = true ∧ w.drew.frozen? ⟨G, 0 + i * 3 + j, none⟩ = false) := by
      refine Lib.hid (fun j hj => ⟨HB.out.drew.som _ ?_, HB.out.drew.frz _⟩)
      rw [HVL.out] at hj
      have := HDN.out
      have := HM.out.2.1
      omega
    go_enter Try.func58, Try.ntmps58
    go_wp2_with fail
    go_region_law ((refine step_append_room rfl (.tmp 22) (.tmp 25) 28 rfl 43 iI 3 Try.underlying28 I.out.1 I.out.2.2.1 G 0 i cap (by simp [Act.eval, Act.put]) ⟨G, (i + 1) * 3, none⟩ d (cap - (i + 1)) vs (by simp [Act.eval, Act.put]) HVL.out Hn1.out Hn2.out (by have := HDN.out; have := HM.out.2.1; omega) Hn3.out ?_; rw [HD.out]))
    all_goals
      have HB6 : Hid (Blk w (w.drew.setCells G (i * 3) vs) G cap (L.eraseIdx i)) := Lib.hid (by simpa only [Nat.zero_add] using HB5.out)
      try simp only [Nat.zero_add]
      obtain ⟨w5, hw5⟩ : ∃ w5, w5 = w.drew.setCells G (i * 3) vs := ⟨_, rfl⟩
      rw [← hw5] at HB6 ⊢
      clear hw5 Hn1 Hn2 Hn3 HB5
      have hcl : ∀ ty c, (Builtin.clear_ #[28] ty #[.slice (some ⟨G, m * 3, none⟩) 1 c]).run Try.prog w5 = .ok (.tuple #[]) (w5.setCells G (m * 3) (Builtin.zeroCells #[.int .i64 0, .int .i64 0, .int .i64 0] 1).toList) := fun ty c =>
        run_clear3 w5 28 43 ty (.agg #[.int .i64 0, .int .i64 0, .int .i64 0]) Try.underlying28 Try.zero43r (by decide) (three_one 0 0 0) G (m * 3) 1 c (by omega) (fun j hj => HB6.out.som _ (by have hj' : j < 1 * 3 := hj; have := HM.out.1; have := HM.out.2.1; omega)) (fun j _ => HB6.out.frz _)
      have HF : Hid (Blk w (w5.setCells G (m * 3) (Builtin.zeroCells #[.int .i64 0, .int .i64 0, .int .i64 0] 1).toList) G cap (L.eraseIdx i)) := HB6.out.put _ _ _ (by have h3 : (Builtin.zeroCells #[Value.int .i64 0, .int .i64 0, .int .i64 0] 1).toList.length = 3 := (zeroCells_len _ _).trans rfl; rw [h3]; have := HM.out.1; have := HM.out.2.1; omega) (fun q z hz => .inr ⟨.inl (by have h1 := (List.getElem?_eq_some_iff.1 hz).1; rw [flat_len, List.length_eraseIdx, if_pos HM.out.2.2.1] at h1; have := HM.out.1; have := HM.out.2.2.2; omega), hz⟩)
      go_wp2_with fail
      go_ret
      exact ⟨rfl, HF.out⟩

end Go.Proofs.Ytgdnfglhlpnooaa
