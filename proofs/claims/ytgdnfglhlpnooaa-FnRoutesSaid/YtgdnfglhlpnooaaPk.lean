/- A route is put into a list: slices.Insert. -/
import Derived.Test.YtgdnfglhlpnooaaPe
import Derived.Lib.Overlaps
import Derived.Lib.AppendZerosOnto
import Derived.Shelf.RegionOpenPlain
import Derived.Shelf.Spec.SlicesInsert
namespace Go.Proofs.Ytgdnfglhlpnooaa
open Go.RowKit


theorem Try.sz43r : ∀ w, (Go.sizeOf 43).run Try.prog w = .ok 3 w := fun _ => by kernel_rfl
/-- 'copy' over elements of three cells. -/
theorem run_copy3 (w : World) (dT sT ty : TypeId) (b o dLen dCap : Nat) (a : Addr) (sLen sCap c : Nat) (cs : List Value)
    (hu : Try.prog.underlying dT = some (.slice 43)) (hc0 : c = Nat.min sLen dLen) (hn : cs.length = c * 3)
    (hsrc : ∀ (j : Nat) v, cs[j]? = some v → w.cell? (a.add j) = some v) (hc : ∀ j, j < cs.length → (w.cell? ⟨b, o + j, none⟩).isSome = true) (hf : ∀ j, j < cs.length → w.frozen? ⟨b, o + j, none⟩ = false) (h1 : ∀ v ∈ cs, v.oneCell' = true) :
    (Builtin.copy_ #[dT, sT] ty #[.slice (some ⟨b, o, none⟩) dLen dCap, .slice (some a) sLen sCap]).run Try.prog w = .ok (goInt c) (w.setCells b o cs) := by
  have hl := run_loadCells_list (P := Try.prog) w a cs hsrc
  have hst := run_storeCells_cells (P := Try.prog) b o cs 0 w (by simpa using hc) (by simpa using hf) h1
  obtain ⟨i, hi, hz, hs, hb⟩ := info_parts Try.info43r
  simp [Builtin.copy_, run_underlying hu, Builtin.lenOf, Builtin.firstCells, sizeOf, typeInfo, hi, hs, ← hc0, ← hn, hl, hst]
/-- The routes from i on moved behind by one. -/
theorem Blk.shift {w wr : World} {G cap i : Nat} {L : List Rt} (h : Blk w wr G cap L) (hi : i < L.length) (hroom : L.length + 1 ≤ cap) : Blk w (wr.setCells G ((i + 1) * 3) (ints ((flat L).drop (i * 3)))) G cap (L.take (i + 1) ++ L.drop i) := by
  have hfl := flat_len L
  have hvl : (ints ((flat L).drop (i * 3))).length = (L.length - i) * 3 := by rw [ints_len, List.length_drop, hfl]; omega
  refine h.put _ _ _ (by rw [hvl]; omega) (fun q z hz => ?_)
  rw [flat_app, flat_take, flat_drop, List.getElem?_append, List.length_take, hfl] at hz
  have hmin : min ((i + 1) * 3) (L.length * 3) = (i + 1) * 3 := by omega
  rw [hmin] at hz
  split at hz
  · rename_i h1
    rw [List.getElem?_take, if_pos h1] at hz
    exact .inr ⟨.inl h1, hz⟩
  · rename_i h1
    have h2 := ints_at hz
    have h3 := (List.getElem?_eq_some_iff.1 h2).1
    exact .inl ⟨by omega, by omega, h2⟩
/-- The new route in the gap. -/
theorem Blk.gap {w wr : World} {G cap i : Nat} {L : List Rt} {x0 x1 x2 : Int} (h : Blk w wr G cap (L.take (i + 1) ++ L.drop i)) (hi : i < L.length) (hroom : L.length + 1 ≤ cap) : Blk w (wr.setCells G (i * 3) (ints [x0, x1, x2])) G cap (L.take i ++ (x0, x1, x2) :: L.drop i) := by
  have hfl := flat_len L
  refine h.put _ _ _ (by rw [ints_len]; simp; omega) (fun q z hz => ?_)
  have h3 : (ints [x0, x1, x2]).length = 3 := rfl
  rw [h3]
  rw [flat_app, flat_cons, flat_take, flat_drop, List.getElem?_append, List.length_take, hfl, show min (i * 3) (L.length * 3) = i * 3 by omega] at hz
  rw [flat_app, flat_take, flat_drop, List.getElem?_append, List.length_take, hfl, show min ((i + 1) * 3) (L.length * 3) = (i + 1) * 3 by omega]
  split at hz
  · rename_i h1
    rw [List.getElem?_take, if_pos h1] at hz
    exact .inr ⟨.inl h1, by rw [if_pos (by omega), List.getElem?_take, if_pos (by omega)]; exact hz⟩
  · rename_i h1
    by_cases h2 : q < i * 3 + 3
    · refine .inl ⟨by omega, h2, ?_⟩
      have h4 : q - i * 3 = 0 ∨ q - i * 3 = 1 ∨ q - i * 3 = 2 := by omega
      rcases h4 with h4 | h4 | h4 <;> rw [h4] at hz ⊢ <;> simp at hz <;> subst hz <;> rfl
    · refine .inr ⟨.inr (by omega), ?_⟩
      rw [if_neg (by omega)]
      obtain ⟨d, hd⟩ : ∃ d, q - i * 3 = d + 1 + 1 + 1 := ⟨q - i * 3 - 3, by omega⟩
      rw [hd] at hz
      simp only [List.getElem?_cons_succ] at hz
      rw [show q - (i + 1) * 3 = d by omega]
      exact hz
/-- What Insert leaves: the routes M at G'; of what was there only the list's own block may have turned. -/
def InsP (base : Nat) (v : Value) (M : List Rt) (w : World) (e : Ending) (w' : World) : Prop :=
  ∃ G' cap' Go, e = .returned (.slice (some ⟨G', 0, none⟩) M.length cap') ∧ base ≤ G' ∧ G' < w'.heap.size ∧ (∀ o, w'.frozen? ⟨G', o, none⟩ = false) ∧ (∀ q z, (flat M)[q]? = some z → w'.cell? ⟨G', q, none⟩ = some (.int .i64 z)) ∧ Else Go w w' ∧ (v.ownBlock = some Go ∨ w.heap.size ≤ Go) ∧ (G' = Go ∨ w.heap.size ≤ G')

set_option maxRecDepth 100000 in
set_option maxHeartbeats 4000000 in
theorem ins_room (G n cap i V base : Nat) (L : List Rt) (x0 x1 x2 : Int) (w : World) (h : Blk w w G cap L) (hL : L.length = n) (hi : i < n) (hroom : n + 1 ≤ cap) (hcm : cap ≤ maxLen) (hb : base ≤ G) (hsG : w.shape? G = some (43, cap * 3))
    (hV : w.heap[V]? = some (.cells (ints [x0, x1, x2]).toArray 43 (0, 0))) (hVG : V ≠ G) :
    Calls Try.prog 63 #[.slice (some ⟨G, 0, none⟩) n cap, .int .i64 (i : Int), .slice (some ⟨V, 0, none⟩) 1 1] w (InsP base (.slice (some ⟨G, 0, none⟩) n cap) (L.take i ++ (x0, x1, x2) :: L.drop i) w) := by
  unfold maxLen at hcm
  have hfl := flat_len L
  have hvc : ∀ (j : Nat) u, (ints [x0, x1, x2])[j]? = some u → w.cell? ⟨V, j, none⟩ = some u := fun j u hu => by
    rw [cell_of_row w V j _ 43 (0, 0) hV]
    simpa using hu
  have hvf : ∀ o, w.frozen? ⟨V, o, none⟩ = false := fun o => by simp [World.frozen?, hV]
  have hvs : w.shape? V = some (43, 3) := by simp [World.shape?, hV, ints]
  have hov : ∀ lb cb, (callFunc 104 #[.slice (some ⟨V, 0, none⟩) 1 1, .slice (some ⟨G, (i + 1) * 3, none⟩) lb cb]).run Try.prog w = .ok (.value (.bool false)) w := fun lb cb => by
    rw [run_callFunc_extern Try.func104 (by kernel_rfl) (by kernel_rfl) (by kernel_rfl) (e := Extern.SlicesOverlaps.overlaps #[28, 28] #[4]) (by kernel_rfl),
      Lib.run_overlaps_apart w 28 4 43 Try.underlying28 3 Try.sz43r ⟨V, 0, none⟩ ⟨G, (i + 1) * 3, none⟩ 1 1 lb cb hVG 43 43 3 (cap * 3) hvs hsG (by omega) (hvf _) (hvf _)]
    rfl
  have hB1 := h.drew.shift (i := i) (by omega) (by omega)
  obtain ⟨W1, hW1⟩ : ∃ W1, W1 = w.drew.setCells G ((i + 1) * 3) (ints ((flat L).drop (i * 3))) := ⟨_, rfl⟩
  rw [← hW1] at hB1
  have hB2 := hB1.gap (x0 := x0) (x1 := x1) (x2 := x2) (by omega) (by omega)
  have hdl : (ints ((flat L).drop (i * 3))).length = (n - i) * 3 := by rw [ints_len, List.length_drop, hfl]; omega
  have hcp1 : ∀ ty dc sc, (Builtin.copy_ #[28, 28] ty #[.slice (some ⟨G, (i + 1) * 3, none⟩) (n - i) dc, .slice (some ⟨G, i * 3, none⟩) (n + 1 - i) sc]).run Try.prog w.drew = .ok (goInt (n - i : Nat)) W1 := fun ty dc sc => by
    rw [hW1]
    refine run_copy3 w.drew 28 28 ty G ((i + 1) * 3) (n - i) dc ⟨G, i * 3, none⟩ (n + 1 - i) sc (n - i) _ Try.underlying28 (by simp only [Nat.min_def]; split <;> omega) hdl (fun j u hj => ?_) (fun j hj => h.drew.som _ (by rw [hdl] at hj; omega)) (fun j _ => h.drew.frz _) (ints_one _)
    unfold ints at hj
    rw [List.getElem?_map, List.getElem?_drop] at hj
    cases hz : (flat L)[i * 3 + j]? with
    | none => rw [hz] at hj; cases hj
    | some z =>
      rw [hz] at hj
      have ea : (⟨G, i * 3, none⟩ : Addr).add j = ⟨G, i * 3 + j, none⟩ := by
        unfold Addr.add
        split
        · rename_i h0; subst h0; rfl
        · rfl
      rw [ea, ← hj]
      exact h.drew.cel _ z hz
  have hcp2 : ∀ ty dc, (Builtin.copy_ #[28, 28] ty #[.slice (some ⟨G, i * 3, none⟩) (n + 1 - i) dc, .slice (some ⟨V, 0, none⟩) 1 1]).run Try.prog W1 = .ok (goInt 1) (W1.setCells G (i * 3) (ints [x0, x1, x2])) := fun ty dc => by
    refine run_copy3 W1 28 28 ty G (i * 3) (n + 1 - i) dc ⟨V, 0, none⟩ 1 1 1 _ Try.underlying28 (by simp only [Nat.min_def]; split <;> omega) rfl (fun j u hj => ?_) (fun j hj => hB1.som _ (by have h3 : (ints [x0, x1, x2]).length = 3 := rfl; omega)) (fun j _ => hB1.frz _) (ints_one _)
    rw [add_none, hW1, World.cell?_setCells_out _ _ _ _ _ (fun e _ => absurd e hVG)]
    exact hvc j u hj
  have HP : Hid (InsP base (.slice (some ⟨G, 0, none⟩) n cap) (L.take i ++ (x0, x1, x2) :: L.drop i) w (.returned (.slice (some ⟨G, 0, none⟩) (n + 1) cap)) (W1.setCells G (i * 3) (ints [x0, x1, x2]))) :=
    ⟨G, cap, G, by rw [show (L.take i ++ (x0, x1, x2) :: L.drop i).length = n + 1 by rw [List.length_append, List.length_cons, List.length_take, List.length_drop]; omega], hb, hB2.size, hB2.frz, hB2.cel, hB2.els, .inl rfl, .inl rfl⟩
  clear hB1 hB2 hdl hvc hvf hvs hfl hL h hV hsG
  have p0 : (0 : Int) ≤ (i : Int) := by omega
  have p1 : (i : Int) ≤ (n : Int) := by omega
  have p2 : (i : Int) ≤ (cap : Int) := by omega
  have p3 : (n : Int) ≤ (cap : Int) := by omega
  have p4 : (0 : Int) ≤ (i : Int) + 1 := by omega
  have p5 : ((i : Int) + 1).toNat = i + 1 := by omega
  have p6 : (i : Int) + 1 ≤ (n : Int) + 1 := by omega
  have p7 : (n : Int) + 1 ≤ (cap : Int) := by omega
  have p8 : ((n : Int) + 1).toNat = n + 1 := by omega
  have p9 : (i : Int) ≤ (n : Int) + 1 := by omega
  have d0 : ((i : Int) == (n : Int)) = false := by simp; omega
  have d1 : (i == n) = false := by simp; omega
  have d2 : ¬ ((cap : Int) < (n : Int) + 1) := by omega
  have e1 : ¬ cap = i := by omega
  have e2 : ¬ cap = i + 1 := by omega
  have HW1 := Lib.hid hW1
  clear hW1 hVG
  have w1 : IntKind.i64.wrap ((i : Int) + 1) = (i : Int) + 1 := IntWalk.i64_in _ (by omega)
  go_enter Try.func63, Try.ntmps63
  go_wp2_with (simp only [hov])
  go_region_law ((refine step_copy_runI rfl _ _ 28 28 rfl _ _ (by simp [Act.eval, Act.put]) (by simp [Act.eval, Act.put]) (hcp1 _ _ _) ?_))
  go_wp2_with (at_builtin; refine wpList_copy_runI _ rfl _ _ 28 28 rfl _ _ rfl rfl (hcp2 _ _) ?_)
  go_ret
  exact HP.out

end Go.Proofs.Ytgdnfglhlpnooaa
