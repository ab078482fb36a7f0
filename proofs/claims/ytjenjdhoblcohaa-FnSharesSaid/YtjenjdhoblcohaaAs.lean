/- Rows of rows of numbers; AllDistances of the program. -/
import Derived.Test.YtjenjdhoblcohaaWj
import Derived.Test.YtjenjdhoblcohaaW6
namespace Go.Proofs.Ytjenjdhoblcohaa
open Go.RowKit


theorem Row.grown {k : Nat} {w wr : World} {r : Option Nat} {lo hi n : Nat} {v : Value} {Z : List Int} (h : Row k w lo hi v n Z) (hg : w.grownBy wr r) (hh : hi ≤ w.heap.size) (hr : ∀ b, r = some b → ¬ (lo ≤ b ∧ b < hi)) : Row k wr lo hi v n Z := by
  obtain ⟨h0, h⟩ := h
  refine ⟨h0, ?_⟩
  rcases h with h | ⟨b, cap, rfl, h1, h2, h3, h4, h5⟩
  · exact .inl h
  · have hb := hg.block b (by omega) (fun e => hr b e.symm ⟨h1, h2⟩)
    refine .inr ⟨b, cap, rfl, h1, h2, h3, fun q z hz => ?_, fun o => ?_⟩
    · rw [World.cell?_of_block (w := w) (a := ⟨b, q, none⟩) hb]; exact h4 q z hz
    · rw [World.frozen?_of_block (w := w) (a := ⟨b, o, none⟩) hb]; exact h5 o
/-- A row of rows of numbers of one's own: v holds k slices vs, the i-th holds ZZ i and lies in the blocks bs i. -/
structure SSt (w wr : World) (v : Value) (k : Nat) (ZZ : Nat → List Int) (vs : Nat → Value) (bs : Nat → Nat × Nat) : Prop where
  below : Below w.heap.size w wr
  row : wr.ownsRow w.heap.size 33 1 v k ((List.range k).map vs)
  inner : ∀ i, i < k → Row 1 wr (bs i).1 (bs i).2 (vs i) (ZZ i).length (ZZ i) ∧ w.heap.size ≤ (bs i).1 ∧ (bs i).2 ≤ wr.heap.size
  apart : ∀ i j, i < j → j < k → (bs i).2 ≤ (bs j).1
  far : ∀ b, v.ownBlock = some b → ∀ i, i < k → ¬ ((bs i).1 ≤ b ∧ b < (bs i).2)
def SSx (w wr : World) (v : Value) (k : Nat) (ZZ : Nat → List Int) : Prop := ∃ vs bs, SSt w wr v k ZZ vs bs
theorem SSt.grow {w wr w2 : World} {v : Value} {k : Nat} {ZZ : Nat → List Int} {vs : Nat → Value} {bs : Nat → Nat × Nat} (h : SSt w wr v k ZZ vs bs) (b : Below wr.heap.size wr w2) : SSt w w2 v k ZZ vs bs :=
  ⟨h.below.trans (b.mono h.below.size), h.row.kept (row := none) ⟨b.os, b.tape, b.output, b.size, fun j hj _ => b.block j hj⟩ (by cases hv : v.ownBlock <;> simp), fun i hi => by
    obtain ⟨h1, h2, h3⟩ := h.inner i hi
    exact ⟨h1.below b h3, h2, Nat.le_trans h3 b.size⟩, h.apart, h.far⟩
theorem SSx.grow {w wr w2 : World} {v : Value} {k : Nat} {ZZ : Nat → List Int} (h : SSx w wr v k ZZ) (b : Below wr.heap.size wr w2) : SSx w w2 v k ZZ := by
  obtain ⟨vs, bs, h⟩ := h
  exact ⟨vs, bs, h.grow b⟩
theorem SSx.nil (w : World) (ZZ : Nat → List Int) : SSx w w (.slice none 0 0) 0 ZZ :=
  ⟨fun _ => .slice none 0 0, fun _ => (0, 0), Below.refl _ _, World.ownsRow_nil _ _ _ _, fun i hi => absurd hi (Nat.not_lt_zero _), fun i j _ hj => absurd hj (Nat.not_lt_zero _), fun b e => by cases e⟩
theorem SSx.lit0 (w : World) (ZZ : Nat → List Int) : SSx w (w.alloc (.cells #[] 33)) (.slice (some ⟨w.heap.size, 0, none⟩) 0 0) 0 ZZ :=
  ⟨fun _ => .slice none 0 0, fun _ => (0, 0), (Below.refl _ _).alloc (Nat.le_refl _) _, ⟨rfl, .inr ⟨_, 0, #[], rfl, Nat.le_refl _, heap_alloc_new w (.cells #[] 33), Nat.zero_le _, Nat.zero_le _, rfl, by simp⟩⟩, fun i hi => absurd hi (Nat.not_lt_zero _), fun i j _ hj => absurd hj (Nat.not_lt_zero _), fun b _ i hi => absurd hi (Nat.not_lt_zero _)⟩
theorem SSx.base {w w1 wr : World} {v : Value} {k : Nat} {ZZ : Nat → List Int} (h : SSx w1 wr v k ZZ) (b : Below w.heap.size w w1) : SSx w wr v k ZZ := by
  obtain ⟨vs, bs, h⟩ := h
  have hs := b.size
  refine ⟨vs, bs, b.trans (h.below.mono hs), ?_, fun i hi => ?_, h.apart, h.far⟩
  · obtain ⟨h1, h2⟩ := h.row
    refine ⟨h1, ?_⟩
    rcases h2 with h2 | ⟨g, cap, cur, rfl, h3, h4⟩
    · exact .inl h2
    · exact .inr ⟨g, cap, cur, rfl, by omega, h4⟩
  · obtain ⟨h1, h2, h3⟩ := h.inner i hi
    exact ⟨h1, by omega, h3⟩
theorem range_map_snoc (vs : Nat → Value) (k : Nat) (d : Value) : (List.range (k + 1)).map (fun i => if i = k then d else vs i) = (List.range k).map vs ++ [d] := by
  rw [List.range_succ, List.map_append]
  congr 1
  · exact List.map_congr_left fun i hi => if_neg (by have := List.mem_range.1 hi; omega)
  · simp
/-- One slice more: it was made behind wr, at w2; behind it a box was laid, and it was appended. -/
theorem SSt.app {w wr w2 w3 w4 : World} {v v' : Value} {k g : Nat} {ZZ : Nat → List Int} {vs : Nat → Value} {bs : Nat → Nat × Nat} {dv : Value} (h : SSt w wr v k ZZ vs bs) (b2 : Below wr.heap.size wr w2) (hd : Row 1 w2 wr.heap.size w2.heap.size dv (ZZ k).length (ZZ k)) (b3 : Below w2.heap.size w2 w3)
    (hg : w3.grownBy w4 v.ownBlock) (hv : v'.ownBlock = some g) (hat : v.ownBlock = some g ∨ w3.heap.size ≤ g) (hr : w4.ownsRow w.heap.size 33 1 v' (k + 1) ((List.range k).map vs ++ [dv])) : SSx w w4 v' (k + 1) ZZ := by
  have s2 := b2.size
  have s3 := b3.size
  have s4 := hg.size
  have b23 : Below wr.heap.size wr w3 := b2.trans (b3.mono s2)
  have h3 := h.grow b23
  have hlt : ∀ b, v.ownBlock = some b → w.heap.size ≤ b ∧ b < wr.heap.size := fun b e => h.row.lt b e
  refine ⟨fun i => if i = k then dv else vs i, fun i => if i = k then (wr.heap.size, w2.heap.size) else bs i, ?_, ?_, fun i hi => ?_, fun i j hij hj => ?_, fun b e i hi => ?_⟩
  · have hb := h3.below
    exact ⟨hg.os.trans hb.os, hg.tape.trans hb.tape, hg.output.trans hb.output, Nat.le_trans hb.size s4, fun x hx => (hg.block x (by have := hb.size; omega) (fun e => by have := (hlt x e.symm).1; omega)).trans (hb.block x hx)⟩
  · rw [range_map_snoc]
    exact hr
  · by_cases e : i = k
    · subst e
      simp only [if_true]
      refine ⟨(hd.below b3 (Nat.le_refl _)).grown hg (by omega) (fun b e => by have := (hlt b e).2; omega), by have := h.below.size; omega, by omega⟩
    · simp only [if_neg e]
      obtain ⟨h1, h2, h4⟩ := h3.inner i (by omega)
      exact ⟨h1.grown hg h4 (fun b e2 => h.far b e2 i (by omega)), h2, by omega⟩
  · by_cases e : j = k
    · subst e
      rw [if_neg (show ¬ i = j by omega), if_pos rfl]
      exact (h.inner i hij).2.2
    · rw [if_neg (show ¬ i = k by omega), if_neg e]
      exact h.apart i j hij (by omega)
  · rw [hv] at e
    cases e
    by_cases e : i = k
    · subst e
      simp only [if_true]
      rcases hat with hat | hat
      · have := (hlt _ hat).2; omega
      · omega
    · simp only [if_neg e]
      rcases hat with hat | hat
      · exact h.far _ hat i (by omega)
      · have := (h.inner i (by omega)).2.2; omega
/-- A cell of a cell. -/
theorem SSx.get {w wr : World} {v : Value} {k : Nat} {ZZ : Nat → List Int} (h : SSx w wr v k ZZ) (hk : 0 < k) : ∃ G cap, v = .slice (some ⟨G, 0, none⟩) k cap ∧ G < wr.heap.size ∧ ∀ i, i < k → 0 < (ZZ i).length → ∃ gi ci, wr.cell? ⟨G, i, none⟩ = some (.slice (some ⟨gi, 0, none⟩) (ZZ i).length ci) ∧ gi < wr.heap.size ∧ ∀ q z, (ZZ i)[q]? = some z → wr.cell? ⟨gi, q, none⟩ = some (.int .i64 z) := by
  obtain ⟨vs, bs, h⟩ := h
  obtain ⟨G, cap, rfl, _, hlt⟩ := h.row.form hk
  refine ⟨G, cap, rfl, hlt, fun i hi hp => ?_⟩
  obtain ⟨h1, _, h3⟩ := h.inner i hi
  have hc : wr.cell? ⟨G, i, none⟩ = some (vs i) := by
    rw [h.row.cellAt _ (by omega)]
    simp [hi]
  obtain ⟨_, h1⟩ := h1
  rcases h1 with ⟨h1, _⟩ | ⟨gi, ci, e, h4, h5, h6, h7, _⟩
  · omega
  · exact ⟨gi, ci, by rw [hc, e], by omega, h7⟩
/-- What AllDistances answers. -/
def adN (N : Int) (L : List Ed) : Nat := if gok N L = true then N.toNat else 0
def adZ (N : Int) (L : List Ed) (i : Nat) : List Int := distL N L (i : Int)
theorem adN_yes {M : Nat} {L : List Ed} (h : gok (M : Int) L = true) : adN (M : Int) L = M := by unfold adN; rw [if_pos h]; omega
theorem adZ_len {M : Nat} {L : List Ed} (h : gok (M : Int) L = true) {i : Nat} (hi : i < M) : (adZ (M : Int) L i).length = M := by unfold adZ distL; rw [tabI_len, distN_yes h hi]
theorem adZ_at {M : Nat} {L : List Ed} (h : gok (M : Int) L = true) {i j : Nat} (hi : i < M) (hj : j < M) : (adZ (M : Int) L i)[j]? = some (dsT (M : Int) L (i : Int) (j : Int)) := by
  unfold adZ distL
  rw [distN_yes h hi, tabI_at _ hj]
  rfl
def AdPost (N : Int) (L : List Ed) (w : World) (e : Ending) (w' : World) : Prop := ∃ rv, e = .returned rv ∧ SSx w w' rv (adN N L) (adZ N L)
theorem slice_one (a : Option Addr) (n c : Nat) : ∀ u ∈ [Value.slice a n c], u.oneCell' = true := by intro u hu; simp at hu; subst hu; rfl
theorem Try.info33 : (Try.prog.info? 33).map (fun i => (i.zero, i.size, i.bytes)) = some (some (.slice none 0 0), 1, 24) := by kernel_rfl

set_option maxRecDepth 100000 in
set_option maxHeartbeats 2400000 in
theorem iad_yes (M : Nat) (lo hi n : Nat) (v : Value) (L : List Ed) (w : World) (hL : L.length = n) (hr : Row 3 w lo hi v n (flat L)) (hh : hi ≤ w.heap.size) (hG : gok (M : Int) L = true) :
    Calls Try.prog 61 #[.agg #[.int .i64 (M : Int), v]] w (AdPost (M : Int) L w) := by
  have HR := Lib.hid hr
  have HG := Lib.hid hG
  have hN1 := (gok_parts hG).1
  have hN2 := (gok_parts hG).2.1
  obtain ⟨ad, cp, rfl⟩ := hr.slice
  obtain ⟨iS, hi, hz0, hz1, hz2⟩ := info_parts Try.info33
  have I := Lib.hid (And.intro hi (And.intro hz0 (And.intro hz1 hz2)))
  clear hr hi hz0 hz1 hz2 hG
  go_enter Try.func61, Try.ntmps61
  go_wp2_with fail
  go_at_call 51
  refine (igok_any (M : Int) lo hi n _ L _ hL (HR.out.below (B := w.heap.size) (by go_grown) (by omega)) (by simp; omega)).mono ?_
  rw [HG.out]
  rintro e v1 ⟨rfl, hb1⟩
  have sz1 : w.heap.size + 1 ≤ v1.heap.size := by have hh := hb1.size; simp at hh; omega
  have st1 : Below w.heap.size w v1 := Below.trans (by go_grown) (hb1.mono (by simp))
  have c1_0 : v1.cell? ⟨w.heap.size, 0, none⟩ = some (.int .i64 (M : Int)) := by rw [(bcell hb1).1 _ _ (by simp)]; first | (rw [new_at (by simp)]; rfl) | simp
  have c1_1 : v1.cell? ⟨w.heap.size, 1, none⟩ = some (.slice ad n cp) := by rw [(bcell hb1).1 _ _ (by simp)]; first | (rw [new_at (by simp)]; rfl) | simp
  have B1 : Hid (Below w.heap.size w v1) := st1
  have R1_0 : Hid (Row 3 v1 (lo) (hi) (.slice ad n cp) n (flat L)) := HR.out.below st1 (by omega)
  have d1_0 : w.heap.size < v1.heap.size := by omega
  have e1_0 : w.heap.size ≠ v1.heap.size := by omega
  clear st1 HR hb1
  have K0 := Lib.hid c1_0
  have K1 := Lib.hid c1_1
  have RB := R1_0
  have HB := B1
  have hwv : w.heap.size < v1.heap.size := by omega
  have HO : Hid (SSx v1 v1 (.slice none 0 0) 0 (adZ (M : Int) L)) := SSx.nil _ _
  go_wp2_with fail
  go_loopw [3, 10] (fun v i wr => ∃ k : Nat, k ≤ M ∧ i = .int .i64 (k : Int) ∧ Hid (SSx v1 wr v k (adZ (M : Int) L))) (fun _ i _ => M - (intOf i).toNat)
  case atStart => exact ⟨0, Nat.zero_le _, rfl, HO⟩
  case round =>
    obtain ⟨k, hk, rfl, hR⟩ := hrel
    obtain ⟨vs, bs, hS⟩ := hR.out
    obtain ⟨oa, oc, ho⟩ := own_slice hS.row
    subst ho
    have hsz := hS.below.size
    have k0 : wr.cell? ⟨w.heap.size, 0, none⟩ = some (.int .i64 (M : Int)) := by rw [hS.below.cell (p := ⟨w.heap.size, 0, none⟩) hwv]; exact K0.out
    have k1 : wr.cell? ⟨w.heap.size, 1, none⟩ = some (.slice ad n cp) := by rw [hS.below.cell (p := ⟨w.heap.size, 1, none⟩) hwv]; exact K1.out
    have HRw : Hid (Row 3 wr lo hi (.slice ad n cp) n (flat L)) := RB.out.below hS.below (by omega)
    have HS := Lib.hid hR.out
    clear hS hR
    by_cases hlt : k < M
    · have q0 : (k : Int) < (M : Int) := by omega
      go_wp2_with fail
      go_at_call 89
      refine (idist_any (M : Int) lo hi n _ L (k : Int) _ hL HRw.out (by omega)).mono ?_
      rintro e w2 ⟨dv, rfl, hrd, hb2⟩
      have hdz : Hid (Row 1 w2 wr.heap.size w2.heap.size dv (adZ (M : Int) L k).length (adZ (M : Int) L k)) := by
        show Row _ _ _ _ _ _ _
        rw [adZ_len HG.out hlt]
        rw [distN_yes HG.out hlt] at hrd
        exact hrd
      rw [distN_yes HG.out hlt] at hrd
      obtain ⟨da, dc, hd⟩ := hrd.slice
      subst hd
      have HB2 := Lib.hid hb2
      have hs2 := hb2.size
      obtain ⟨vs, bs, hS⟩ := HS.out
      have Hw := Lib.hid (hS.grow hb2).row
      have HSt := Lib.hid hS
      clear hrd hb2 hS k0 k1
      go_wp2_with (at_builtin; refine wpList_append_lies _ rfl _ _ 73 rfl v1.heap.size 33 iS (.slice none 0 0) 1 24 Try.underlying73 I.out.1 I.out.2.1 I.out.2.2.1 I.out.2.2.2 rfl (by decide) _ k ((List.range k).map vs) rfl (Hw.out.alloc _) ⟨w2.heap.size, 0, none⟩ 1 1 [.slice da M dc] rfl rfl ?d0 (slice_one _ _ _) (by decide) ?d1 ?d2 ?d3 _ rfl ?_)
      case d0 => exact fun j u hj => cell_one_new _ _ 33 rfl j u hj
      case d1 => unfold maxLen; omega
      case d2 => omega
      case d3 => simp; omega
      intro g4 cap4 w4 hown4 hgrow4 hat4 hlt4
      have HE : Hid (SSx v1 w4 (.slice (some ⟨g4, 0, none⟩) (k + 1) cap4) (k + 1) (adZ (M : Int) L)) :=
        HSt.out.app HB2.out hdz.out ((Below.refl _ _).alloc (Nat.le_refl _) (.cells #[.slice da M dc] 33)) hgrow4 rfl (hat4.imp id (fun e => by rw [e]; simp)) hown4
      clear hown4 hgrow4 hat4 hlt4 Hw HS HB2 hdz HSt
      go_wp2_with fail
      go_roundw
      case rel => exact ⟨k + 1, by omega, by go_num, HE⟩
      case measure => simp [intOf]; omega
    · obtain rfl : M = k := by omega
      have hge : ¬ ((M : Int) < (M : Int)) := by omega
      go_wp2_with fail
      refine bodyPost_ret (v := .slice oa M oc) (by simp [results, Try.results61, go_sem]) rfl ⟨_, rfl, ?_⟩
      rw [adN_yes HG.out]
      exact HS.out.base HB.out

set_option maxRecDepth 100000 in
set_option maxHeartbeats 2400000 in
theorem iad_no (N : Int) (lo hi n : Nat) (v : Value) (L : List Ed) (w : World) (hL : L.length = n) (hr : Row 3 w lo hi v n (flat L)) (hh : hi ≤ w.heap.size) (hG : gok N L = false) :
    Calls Try.prog 61 #[.agg #[.int .i64 N, v]] w (AdPost N L w) := by
  have HR := Lib.hid hr
  have e0 : Hid (adN N L = 0) := by show _ = _; unfold adN; rw [hG]; rfl
  obtain ⟨ad, cp, rfl⟩ := hr.slice
  clear hr
  go_enter Try.func61, Try.ntmps61
  go_wp2_with fail
  go_at_call 51
  refine (igok_any N lo hi n _ L _ hL (HR.out.below (B := w.heap.size) (by go_grown) (by omega)) (by simp; omega)).mono ?_
  rw [hG]
  rintro e v1 ⟨rfl, hb1⟩
  have sz1 : w.heap.size + 1 ≤ v1.heap.size := by have hh := hb1.size; simp at hh; omega
  have st1 : Below w.heap.size w v1 := Below.trans (by go_grown) (hb1.mono (by simp))
  have c1_0 : v1.cell? ⟨w.heap.size, 0, none⟩ = some (.int .i64 N) := by rw [(bcell hb1).1 _ _ (by simp)]; first | (rw [new_at (by simp)]; rfl) | simp
  have c1_1 : v1.cell? ⟨w.heap.size, 1, none⟩ = some (.slice ad n cp) := by rw [(bcell hb1).1 _ _ (by simp)]; first | (rw [new_at (by simp)]; rfl) | simp
  have B1 : Hid (Below w.heap.size w v1) := st1
  have R1_0 : Hid (Row 3 v1 (lo) (hi) (.slice ad n cp) n (flat L)) := HR.out.below st1 (by omega)
  have d1_0 : w.heap.size < v1.heap.size := by omega
  have e1_0 : w.heap.size ≠ v1.heap.size := by omega
  clear st1 HR hb1
  go_wp2_with fail
  go_ret
  refine ⟨.slice none 0 0, rfl, ?_⟩
  rw [e0.out]
  exact (SSx.nil _ _).base B1.out

theorem iad_any (N : Int) (lo hi n : Nat) (v : Value) (L : List Ed) (w : World) (hL : L.length = n) (hr : Row 3 w lo hi v n (flat L)) (hh : hi ≤ w.heap.size) :
    Calls Try.prog 61 #[.agg #[.int .i64 N, v]] w (AdPost N L w) := by
  by_cases hG : gok N L = true
  · have hN := gok_parts hG
    obtain ⟨M, rfl⟩ : ∃ M : Nat, N = (M : Int) := ⟨N.toNat, by omega⟩
    exact iad_yes M lo hi n v L w hL hr hh hG
  · exact iad_no N lo hi n v L w hL hr hh (by simpa using hG)

end Go.Proofs.Ytjenjdhoblcohaa
