/- The sort of a row of prefixes by their addresses, as a contract on rows. -/
import Derived.Test.YtpfeekdmeloakaaSh
import Derived.Test.YtpfeekdmeloakaaWt
import Derived.Test.YtpfeekdmeloakaaCp
namespace Go.Proofs.Ytpfeekdmeloakaa
open Go.RowKit Go.Shelf Go.Lib Go.Sort

def encP (x : Pf) : List Value := [.int .i64 x.1, .int .i64 x.2]
def cfP (x y : Pf) : Int := cmpI x.1 y.1

set_option maxHeartbeats 1000000 in
theorem closure_any (x y : Pf) (W : World) : Calls Try.prog 114 #[.agg #[.int .i64 x.1, .int .i64 x.2], .agg #[.int .i64 y.1, .int .i64 y.2]] W fun e w' => e = .returned (.int .i64 (cfP x y)) ∧ ∃ q os', w' = grow (W.drewN q) os' := by
  have hcon := fun W' => cmp_any x.1 y.1 W'
  unfold cfP
  generalize cmpI x.1 y.1 = r at hcon ⊢
  go_enter Try.func114, Try.ntmps114
  go_wp2_with (go_at_call 103; refine (hcon _).mono ?_; rintro e w' ⟨rfl, rfl⟩)
  go_ret
  exact ⟨rfl, 0, _, by rw [alloc_eq_grow, alloc_eq_grow, grow_grow]; rfl⟩

theorem lt_cfP (x y : Pf) : ltOf cfP x y = decide (x.1 < y.1) := by
  unfold ltOf cfP cmpI
  by_cases h1 : x.1 < y.1
  · simp [h1]
  · by_cases h2 : y.1 < x.1 <;> simp [h1, h2]
theorem swoP : SWO (ltOf cfP) where
  irrefl x := by rw [lt_cfP]; simp
  trans x y z h1 h2 := by rw [lt_cfP] at *; simp at *; omega
  ntrans x y z h1 h2 := by rw [lt_cfP] at *; simp at *; omega

theorem sw_block {w : World} {blk off m : Nat} {dk : Array Pf} {os : Array Obj} (b : Nat) (hb : b < w.heap.size) (hn : b ≠ blk) : (sortWorldK encP 2 w blk off m dk os).heap[b]? = w.heap[b]? := by
  unfold sortWorldK
  rw [Sort.heap_grow_old _ _ (by rw [size_putRowK]; exact hb)]
  unfold putRowK putRow mapBlock
  simp only [Array.getElem?_modify]
  rw [if_neg (fun e => hn e.symm)]
  rfl
theorem sw_else {w : World} {blk off m : Nat} {dk : Array Pf} {os : Array Obj} : Else blk w (sortWorldK encP 2 w blk off m dk os) :=
  ⟨rfl, rfl, rfl, size_sortWorldK_c _ _ _ _ _ _ _ _, fun b hb hn => sw_block b hb hn⟩
theorem sw_frozen {w : World} {blk off m : Nat} {dk : Array Pf} {os : Array Obj} (o : Nat) (hb : blk < w.heap.size) : (sortWorldK encP 2 w blk off m dk os).frozen? ⟨blk, o, none⟩ = w.frozen? ⟨blk, o, none⟩ := by
  unfold sortWorldK
  rw [Sort.frozen?_grow _ _ _ (by rw [size_putRowK]; exact hb)]
  unfold putRowK
  rw [frozen?_putRow]
  rfl

theorem flat2_split {L : List Pf} {q : Nat} {z : Int} (h : (flat2 L)[q]? = some z) : ∃ p, L[q / 2]? = some p ∧ (q = q / 2 * 2 ∧ z = p.1 ∨ q = q / 2 * 2 + 1 ∧ z = p.2) := by
  have hl := (List.getElem?_eq_some_iff.1 h).1
  rw [flat2_len] at hl
  have hp : L[q / 2]? = some (L[q / 2]'(by omega)) := List.getElem?_eq_getElem _
  obtain ⟨h0, h1⟩ := flat2_at L _ _ hp
  refine ⟨_, hp, ?_⟩
  by_cases e : q % 2 = 0
  · have e' : q = q / 2 * 2 := by omega
    rw [← e', h] at h0
    exact .inl ⟨e', Option.some.inj h0⟩
  · have e' : q = q / 2 * 2 + 1 := by omega
    rw [← e', h] at h1
    exact .inr ⟨e', Option.some.inj h1⟩

theorem get_bang {d : Array Pf} {i : Nat} {p : Pf} (h : d.toList[i]? = some p) : d[i]! = p ∧ i < d.size := by
  have h' : d[i]? = some p := by simpa using h
  obtain ⟨hl, he⟩ := Array.getElem?_eq_some_iff.1 h'
  exact ⟨by rw [getElem!_pos d i hl, he], hl⟩

theorem encP_at (p : Pf) (c : Nat) (h : c < 2) : (encP p)[c]! = .int .i64 (if c = 0 then p.1 else p.2) := by
  rcases c with _ | _ | c
  · rfl
  · rfl
  · omega
theorem hold_of_cells {w : World} {g : Nat} {L : List Pf} (h : ∀ q z, (flat2 L)[q]? = some z → w.cell? ⟨g, q, none⟩ = some (.int .i64 z)) (hf : ∀ o, w.frozen? ⟨g, o, none⟩ = false) : HoldsK encP 2 w g 0 L.toArray := by
  intro j hj
  refine ⟨?_, by rw [Nat.zero_add]; exact hf _⟩
  rw [size_flatK] at hj
  have hj2 : j / 2 < L.length := by simp at hj; omega
  have hp : L[j / 2]? = some (L[j / 2]'hj2) := List.getElem?_eq_getElem _
  obtain ⟨h0, h1⟩ := flat2_at L _ _ hp
  obtain ⟨e, -⟩ := get_bang (d := L.toArray) (p := L[j / 2]'hj2) (i := j / 2) (by simp)
  rw [Nat.zero_add, get_flatK _ _ _ _ hj, e, encP_at _ _ (by omega)]
  by_cases hm : j % 2 = 0
  · rw [if_pos hm]
    rw [show j / 2 * 2 = j by omega] at h0
    exact h _ _ h0
  · rw [if_neg hm]
    rw [show j / 2 * 2 + 1 = j by omega] at h1
    exact h _ _ h1
theorem cells_of_hold {w : World} {g : Nat} {d : Array Pf} (h : HoldsK encP 2 w g 0 d) (q : Nat) (z : Int) (hz : (flat2 d.toList)[q]? = some z) : w.cell? ⟨g, q, none⟩ = some (.int .i64 z) := by
  obtain ⟨p, hp, hq⟩ := flat2_split hz
  obtain ⟨e, hl⟩ := get_bang hp
  rcases hq with ⟨hq, rfl⟩ | ⟨hq, rfl⟩
  · have := (h.cell (c := 0) hl (by omega)).1
    rw [e, encP_at _ _ (by omega), if_pos rfl] at this
    rw [show 0 + q / 2 * 2 + 0 = q by omega] at this
    exact this
  · have := (h.cell (c := 1) hl (by omega)).1
    rw [e, encP_at _ _ (by omega), if_neg (by omega)] at this
    rw [show 0 + q / 2 * 2 + 1 = q by omega] at this
    exact this

theorem sorted_pw {d : Array Pf} (h : SortedIn (ltOf cfP) 0 d.size d) : d.toList.Pairwise fun p q => p.1 ≤ q.1 := by
  rw [List.pairwise_iff_getElem]
  intro i j hi hj hij
  have := h i j (Nat.zero_le _) hij (by simpa using hj)
  rw [lt_cfP] at this
  have hi' : i < d.size := by simpa using hi
  have hj' : j < d.size := by simpa using hj
  rw [getElem!_pos d i hi', getElem!_pos d j hj'] at this
  simp at this
  simpa using this

theorem sortP_any (lo hi n : Nat) (v : Value) (L : List Pf) (w : World) (hL : L.length = n) (hn0 : 0 < n) (hr : Row 2 w lo hi v n (flat2 L)) (hh : hi ≤ w.heap.size) :
    Calls Try.prog 113 #[v, .func (.func 114) #[] #[]] w fun e w' => e = .returned (.tuple #[]) ∧ ∃ M : List Pf, L.Perm M ∧ M.Pairwise (fun p q => p.1 ≤ q.1) ∧ Row 2 w' lo hi v n (flat2 M) ∧ Turned lo hi w w' := by
  rcases hr.2 with ⟨rfl, _⟩ | ⟨g, cap, rfl, h1, h2, h3, h4, h5⟩
  · omega
  · have eg : ∀ args w, (callFunc 114 args).run Try.prog w = .ok (.enter 114 args) w := enters_of Try.func114 (by kernel_rfl) rfl
    have hg : g < w.heap.size := by omega
    have hH := hold_of_cells h4 h5
    have hcon := AnyQ.slices_SortFunc Try.sortP 2 Try.isAgg39 Try.sizeOf39 encP (fun _ => rfl) (fun x v hv => by simp [encP] at hv; rcases hv with rfl | rfl <;> rfl) cfP swoP 114 #[] g 0 cap L.toArray w eg (fun _ _ _ _ x y => closure_any x y _) hH hg (by simp; omega)
    change Calls Try.prog 113 _ _ _ at hcon
    rw [show L.toArray.size = n by simpa using hL] at hcon
    refine hcon.mono ?_
    rintro e w' ⟨rfl, d, m, os, hp, hs, rfl⟩
    have hs1 : d.size = n := by rw [hp.1]; simpa using hL
    refine ⟨rfl, d.toList, ?_, ?_, ⟨by rw [flat2_len]; simp [hs1], .inr ⟨g, cap, rfl, h1, h2, h3, fun q z hz => ?_, fun o => by rw [sw_frozen o hg]; exact h5 o⟩⟩, ⟨g, sw_else, .inl ⟨h1, h2⟩⟩⟩
    · have := hp.2.2
      rw [show n = d.size from hs1.symm] at this
      have e2 : (L.toArray).extract 0 d.size = L.toArray := by rw [hs1, ← hL]; simp
      rw [e2, Array.extract_size] at this
      exact this.symm
    · exact sorted_pw (by rw [hs1]; exact hs)
    · exact cells_of_hold (holdsK_sortWorldK encP 2 w g 0 m L.toArray d os hg hH (by rw [hs1]; simp [hL])) q z hz

end Go.Proofs.Ytpfeekdmeloakaa
