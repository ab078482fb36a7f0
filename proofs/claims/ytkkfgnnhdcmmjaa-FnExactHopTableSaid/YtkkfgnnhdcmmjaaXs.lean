/- The helpers of the laws over rows of rows. -/
import Derived.Test.YtkkfgnnhdcmmjaaAs
import Derived.Test.YtkkfgnnhdcmmjaaGi
import Derived.Test.YtkkfgnnhdcmmjaaReg
import Derived.WalkSpells
import Derived.WalkLawsBesides
import Derived.BigQuiet
import Derived.Deep.QuietTactic
import Derived.Deep.RegionHeld3
import Derived.WalkSmall
import Derived.Handy
namespace Go.Proofs.Ytkkfgnnhdcmmjaa
open Go.RowKit


/-- How many numbers stand ahead of the i-th row. -/
def offX (ZZ : Nat → List Int) : Nat → Nat
  | 0 => 0
  | i + 1 => offX ZZ i + (ZZ i).length
/-- The marks that mark leaves in the i-th row. -/
def mkX (ZZ : Nat → List Int) (i : Nat) : List Int := marks (1 + (offX ZZ i : Int)) ((ZZ i).length * 1)
theorem mkX_len (ZZ : Nat → List Int) (i : Nat) : (mkX ZZ i).length = (ZZ i).length := by unfold mkX; rw [marks_len]; omega
theorem offX_mk (ZZ : Nat → List Int) : ∀ i, offX (mkX ZZ) i = offX ZZ i
  | 0 => rfl
  | i + 1 => by show offX (mkX ZZ) i + (mkX ZZ i).length = offX ZZ i + (ZZ i).length; rw [offX_mk ZZ i, mkX_len]
theorem offX_mono (ZZ : Nat → List Int) {i : Nat} : ∀ {j : Nat}, i ≤ j → offX ZZ i ≤ offX ZZ j
  | 0, h => by obtain rfl : i = 0 := by omega
               exact Nat.le_refl _
  | j + 1, h => by
    by_cases e : i = j + 1
    · subst e; exact Nat.le_refl _
    · have := offX_mono ZZ (show i ≤ j by omega)
      show _ ≤ offX ZZ j + (ZZ j).length
      omega
structure XSt (w : World) (lo hi : Nat) (v : Value) (n : Nat) (ZZ : Nat → List Int) (vs : Nat → Value) (bs : Nat → Nat × Nat) : Prop where
  outer : n ≤ 1100000 ∧ ∃ a c, v = .slice a n c ∧ (0 < n → ∃ G, a = some ⟨G, 0, none⟩ ∧ lo ≤ G ∧ G < hi ∧ (∀ i, i < n → w.cell? ⟨G, i, none⟩ = some (vs i)) ∧ ∀ i, i < n → ¬ ((bs i).1 ≤ G ∧ G < (bs i).2))
  inner : ∀ i, i < n → Row 1 w (bs i).1 (bs i).2 (vs i) (ZZ i).length (ZZ i) ∧ lo ≤ (bs i).1 ∧ (bs i).2 ≤ hi
  apart : ∀ i j, i < j → j < n → (bs i).2 ≤ (bs j).1
/-- A row of rows as Row is one of numbers. -/
def RowX (w : World) (lo hi : Nat) (v : Value) (n : Nat) (ZZ : Nat → List Int) : Prop := ∃ vs bs, XSt w lo hi v n ZZ vs bs
theorem RowX.slice {w : World} {lo hi n : Nat} {v : Value} {ZZ : Nat → List Int} (h : RowX w lo hi v n ZZ) : ∃ a c, v = .slice a n c := by
  obtain ⟨vs, bs, h⟩ := h
  obtain ⟨_, a, c, e, _⟩ := h.outer
  exact ⟨a, c, e⟩
theorem XSt.below {w w' : World} {B lo hi n : Nat} {v : Value} {ZZ : Nat → List Int} {vs : Nat → Value} {bs : Nat → Nat × Nat} (h : XSt w lo hi v n ZZ vs bs) (hb : Below B w w') (hB : hi ≤ B) : XSt w' lo hi v n ZZ vs bs where
  outer := by
    obtain ⟨h0, a, c, e, h1⟩ := h.outer
    refine ⟨h0, a, c, e, fun hn => ?_⟩
    obtain ⟨G, h2, h3, h4, h5, h6⟩ := h1 hn
    exact ⟨G, h2, h3, h4, fun i hi' => by rw [hb.cell (p := ⟨G, i, none⟩) (by show G < B; omega)]; exact h5 i hi', h6⟩
  inner i hi' := by
    obtain ⟨h1, h2, h3⟩ := h.inner i hi'
    exact ⟨h1.below hb (by omega), h2, h3⟩
  apart := h.apart
theorem RowX.below {w w' : World} {B lo hi n : Nat} {v : Value} {ZZ : Nat → List Int} (h : RowX w lo hi v n ZZ) (hb : Below B w w') (hB : hi ≤ B) : RowX w' lo hi v n ZZ := by
  obtain ⟨vs, bs, h⟩ := h
  exact ⟨vs, bs, h.below hb hB⟩
theorem RowX.wide {w : World} {lo hi lo' hi' n : Nat} {v : Value} {ZZ : Nat → List Int} (h : RowX w lo hi v n ZZ) (hl : lo' ≤ lo) (hh : hi ≤ hi') : RowX w lo' hi' v n ZZ := by
  obtain ⟨vs, bs, h⟩ := h
  refine ⟨vs, bs, ?_, fun i hi => ?_, h.apart⟩
  · obtain ⟨h0, a, c, e, h1⟩ := h.outer
    refine ⟨h0, a, c, e, fun hn => ?_⟩
    obtain ⟨G, h2, h3, h4, h5⟩ := h1 hn
    exact ⟨G, h2, by omega, by omega, h5⟩
  · obtain ⟨h1, h2, h3⟩ := h.inner i hi
    exact ⟨h1, by omega, by omega⟩
theorem SSx.rowX {w wr : World} {v : Value} {k : Nat} {ZZ : Nat → List Int} (h : SSx w wr v k ZZ) (hk : k ≤ 1100000) : RowX wr w.heap.size wr.heap.size v k ZZ := by
  obtain ⟨vs, bs, h⟩ := h
  refine ⟨vs, bs, ⟨hk, ?_⟩, fun i hi => h.inner i hi, h.apart⟩
  by_cases h0 : 0 < k
  · obtain ⟨G, cap, rfl, h1, h2⟩ := h.row.form h0
    refine ⟨_, cap, rfl, fun _ => ⟨G, rfl, h1, h2, fun i hi => ?_, fun i hi => h.far G rfl i hi⟩⟩
    rw [h.row.cellAt _ (by omega)]
    simp [hi]
  · obtain ⟨a, c, e⟩ := own_slice h.row
    exact ⟨a, c, e, fun hn => absurd hn h0⟩
/-- What mark does to the world: old blocks out of the row stay. -/
def TurnedX (lo hi : Nat) (w w' : World) : Prop := w'.os = w.os ∧ w'.tape = w.tape ∧ w'.output = w.output ∧ w.heap.size ≤ w'.heap.size ∧ ∀ b, b < w.heap.size → (b < lo ∨ hi ≤ b) → w'.heap[b]? = w.heap[b]?
theorem TurnedX.refl (lo hi : Nat) (w : World) : TurnedX lo hi w w := ⟨rfl, rfl, rfl, Nat.le_refl _, fun _ _ _ => rfl⟩
theorem TurnedX.size {lo hi : Nat} {w w' : World} (h : TurnedX lo hi w w') : w.heap.size ≤ w'.heap.size := h.2.2.2.1
theorem TurnedX.cell {lo hi b o : Nat} {w w' : World} (h : TurnedX lo hi w w') (hb : b < w.heap.size) (hg : b < lo ∨ hi ≤ b) : w'.cell? ⟨b, o, none⟩ = w.cell? ⟨b, o, none⟩ := World.cell?_of_block (w := w) (a := ⟨b, o, none⟩) (h.2.2.2.2 b hb hg)
theorem TurnedX.below {lo hi B : Nat} {w w' : World} (h : TurnedX lo hi w w') (hB : B ≤ lo) (hw : B ≤ w.heap.size) : Below B w w' := ⟨h.1, h.2.1, h.2.2.1, h.2.2.2.1, fun k hk => h.2.2.2.2 k (by omega) (by omega)⟩
theorem TurnedX.row {k lo hi lo' hi' n : Nat} {w w' : World} {v : Value} {Z : List Int} (h : TurnedX lo hi w w') (hr : Row k w lo' hi' v n Z) (hh : hi' ≤ w.heap.size) (hd : hi' ≤ lo ∨ hi ≤ lo') : Row k w' lo' hi' v n Z := by
  obtain ⟨h0, hr⟩ := hr
  refine ⟨h0, ?_⟩
  rcases hr with hr | ⟨b, cap, rfl, h1, h2, h3, h4, h5⟩
  · exact .inl hr
  · have hb := h.2.2.2.2 b (by omega) (by omega)
    refine .inr ⟨b, cap, rfl, h1, h2, h3, fun q z hz => ?_, fun o => ?_⟩
    · rw [World.cell?_of_block (w := w) (a := ⟨b, q, none⟩) hb]; exact h4 q z hz
    · rw [World.frozen?_of_block (w := w) (a := ⟨b, o, none⟩) hb]; exact h5 o
theorem TurnedX.rowX {lo hi lo' hi' n : Nat} {w w' : World} {v : Value} {ZZ : Nat → List Int} (h : TurnedX lo hi w w') (hr : RowX w lo' hi' v n ZZ) (hh : hi' ≤ w.heap.size) (hd : hi' ≤ lo ∨ hi ≤ lo') : RowX w' lo' hi' v n ZZ := by
  obtain ⟨vs, bs, hr⟩ := hr
  refine ⟨vs, bs, ?_, fun i hi2 => ?_, hr.apart⟩
  · obtain ⟨h0, a, c, e, h1⟩ := hr.outer
    refine ⟨h0, a, c, e, fun hn => ?_⟩
    obtain ⟨G, h2, h3, h4, h5, h6⟩ := h1 hn
    exact ⟨G, h2, h3, h4, fun i hi' => by rw [h.cell (by omega) (by omega)]; exact h5 i hi', h6⟩
  · obtain ⟨h1, h2, h3⟩ := hr.inner i hi2
    exact ⟨h.row h1 (by omega) (by omega), h2, h3⟩
theorem Turned.toX {lo hi lo' hi' : Nat} {w w' : World} (h : Turned lo hi w w') (hl : lo' ≤ lo) (hh : hi ≤ hi') : TurnedX lo' hi' w w' := by
  obtain ⟨g, he, hg⟩ := h
  exact ⟨he.1, he.2.1, he.2.2.1, he.2.2.2.1, fun b hb hbo => he.2.2.2.2 b hb (by omega)⟩
theorem TurnedX.trans {lo hi : Nat} {a b c : World} (h : TurnedX lo hi a b) (h' : TurnedX lo hi b c) : TurnedX lo hi a c :=
  ⟨h'.1.trans h.1, h'.2.1.trans h.2.1, h'.2.2.1.trans h.2.2.1, Nat.le_trans h.2.2.2.1 h'.2.2.2.1, fun k hk hg => (h'.2.2.2.2 k (Nat.lt_of_lt_of_le hk h.2.2.2.1) hg).trans (h.2.2.2.2 k hk hg)⟩
theorem Turned.rowX {lo hi lo' hi' n : Nat} {w w' : World} {v : Value} {ZZ : Nat → List Int} (h : Turned lo hi w w') (hr : RowX w lo' hi' v n ZZ) (hh : hi' ≤ w.heap.size) (hd : hi' ≤ lo ∨ hi ≤ lo') : RowX w' lo' hi' v n ZZ := (h.toX (Nat.le_refl _) (Nat.le_refl _)).rowX hr hh hd
theorem markIntS_any (k : Int) (Z : List Int) (n lo hi : Nat) (v : Value) (w : World) (hk0 : 0 ≤ k) (hk1 : k ≤ 1000000000) (hr : Row 1 w lo hi v n Z) :
    Calls Try.prog 22 #[v, .int .i64 k] w fun e w' => e = .returned (.int .i64 (k + ((n * 1 : Nat) : Int))) ∧ Row 1 w' lo hi v n (marks k (n * 1)) ∧ Turned lo hi w w' := by
  obtain ⟨h0, hr⟩ := hr
  rcases hr with ⟨hL, a, c, rfl⟩ | ⟨g, cap, rfl, h1, h2, h3, h4, h5⟩
  · subst hL
    exact (markIntS_nil a c k w).mono fun _ _ ⟨h1, h2⟩ => by subst h2; exact ⟨by rw [h1]; simp, ⟨by simp [marks_len], .inl ⟨rfl, a, c, rfl⟩⟩, Turned.of_only (g := 0) (Only.refl _ _) (.inr rfl)⟩
  · refine (markIntS_some g n cap Z k w h0 h3 hk0 hk1 h4 h5).mono fun e w' ⟨he, hM⟩ => ⟨he, ⟨marks_len _ _, .inr ⟨g, cap, rfl, h1, h2, h3, fun q z hz => ?_, hM.2.1⟩⟩, Turned.of_only hM.1 (.inl ⟨h1, h2⟩)⟩
    have hq : q < n * 1 := by have := (List.getElem?_eq_some_iff.1 hz).1; rwa [marks_len] at this
    rw [marks_at _ _ _ hq] at hz
    obtain rfl := Option.some.inj hz
    exact hM.2.2.1 q hq
theorem heldIntS_any (k : Int) (n lo hi : Nat) (v : Value) (w : World) (hk0 : 0 ≤ k) (hk1 : k ≤ 1000000000) (hr : Row 1 w lo hi v n (marks k (n * 1))) :
    Calls Try.prog 23 #[v, .int .i64 k] w fun e w' => e = .returned (.int .i64 (k + ((n * 1 : Nat) : Int))) ∧ w = w' := by
  obtain ⟨a, c, rfl, hn, hc⟩ := hr.opened
  refine heldIntS_row n a c k w hn hk0 hk1 fun h => ?_
  obtain ⟨g, h1, _, h3⟩ := hc h
  exact ⟨g, h1, fun q hq => h3 q _ (marks_at _ _ _ (by omega))⟩

set_option maxRecDepth 100000 in
set_option maxHeartbeats 2400000 in
theorem eqIntSS_same (ZZ : Nat → List Int) (n lo hi lo' hi' : Nat) (v v' : Value) (w : World) (hr : RowX w lo hi v n ZZ) (hr' : RowX w lo' hi' v' n ZZ) (hh : hi ≤ w.heap.size) (hh' : hi' ≤ w.heap.size) :
    Calls Try.prog 26 #[v, v'] w fun e w' => e = .returned (.bool true) ∧ Below w.heap.size w w' := by
  obtain ⟨vs, bs, X⟩ := hr
  obtain ⟨vs', bs', X'⟩ := hr'
  obtain ⟨hn, a, c, rfl, ho⟩ := X.outer
  obtain ⟨_, a', c', rfl, ho'⟩ := X'.outer
  have HX := Lib.hid X
  have HX' := Lib.hid X'
  have HO := Lib.hid ho
  have HO' := Lib.hid ho'
  clear X X' ho ho'
  go_enter Try.func26, Try.ntmps26
  go_wp2
  go_loopw [5] (fun i wr => ∃ k : Nat, k ≤ n ∧ i = .int .i64 (k : Int) ∧ Hid (Below w.heap.size w wr)) (fun i _ => n - (intOf i).toNat)
  case atStart => exact ⟨0, Nat.zero_le _, rfl, Below.refl _ _⟩
  case round =>
    obtain ⟨k, hk, rfl, hB⟩ := hrel
    by_cases hlt : k < n
    · obtain ⟨G, rfl, g1, g2, g3, _⟩ := HO.out (by omega)
      obtain ⟨G', rfl, g1', g2', g3', _⟩ := HO'.out (by omega)
      have d0 : wr.cell? ⟨G, k, none⟩ = some (vs k) := by rw [hB.out.cell (p := ⟨G, k, none⟩) (by show G < _; omega)]; exact g3 k hlt
      have d1 : wr.cell? ⟨G', k, none⟩ = some (vs' k) := by rw [hB.out.cell (p := ⟨G', k, none⟩) (by show G' < _; omega)]; exact g3' k hlt
      obtain ⟨i1, i2, i3⟩ := HX.out.inner k hlt
      obtain ⟨j1, j2, j3⟩ := HX'.out.inner k hlt
      have R1 := Lib.hid (i1.below hB.out (by omega))
      have R2 := Lib.hid (j1.below hB.out (by omega))
      have hsz := hB.out.size
      have hk0 : (0 : Int) ≤ (k : Int) := by omega
      have hk1 : (k : Int) < (n : Int) := by omega
      clear g3 g3' i1 j1
      go_wp2_with fail
      refine wp_region_held_drew (S := (fun w' => w'.cell? ⟨G, k, none⟩ = some (vs k) ∧ w'.cell? ⟨G', k, none⟩ = some (vs' k) ∧ wr.heap.size ≤ w'.heap.size ∧ Below wr.heap.size wr w')) (by kernel_rfl) ?_ (fun hHeld => ?_)
      · (first | assumption | exact rr2_start d0 d1 | exact rr2_drew (rr2_start d0 d1) | exact rr2_drew (by assumption) | exact rr2_keep (by omega) (by omega) (by assumption) (by assumption))
      refine step_read 0 17 rfl rfl (by kernel_rfl) (by kernel_rfl) (by kernel_rfl) (fun _ _ _ h => h) (by rfl) (v := ?_) (fun w hSw => ?_) (by assumption) ?_; rotate_left; (focus ((try dsimp only at hSw); go_simp; first | done | exact rfl)); simp only [List.set]
      refine step_read 1 18 rfl rfl (by kernel_rfl) (by kernel_rfl) (by kernel_rfl) (fun _ _ _ h => h) (by rfl) (v := ?_) (fun w hSw => ?_) (by assumption) ?_; rotate_left; (focus ((try dsimp only at hSw); go_simp; first | done | exact rfl)); simp only [List.set]
      refine step_read 2 19 rfl rfl (by kernel_rfl) (by kernel_rfl) (by kernel_rfl) (fun _ _ _ h => h) (by rfl) (v := ?_) (fun w hSw => ?_) (by assumption) ?_; rotate_left; (focus ((try dsimp only at hSw); go_simp; first | done | exact rfl)); simp only [List.set]
      refine step_read 3 20 rfl rfl (by kernel_rfl) (by kernel_rfl) (by kernel_rfl) (fun _ _ _ h => h) (by rfl) (v := ?_) (fun w hSw => ?_) (by assumption) ?_; rotate_left; (focus ((try dsimp only at hSw); go_simp; first | done | exact rfl)); simp only [List.set]
      refine step_read 4 21 rfl rfl (by kernel_rfl) (by kernel_rfl) (by kernel_rfl) (fun _ _ _ h => h) (by rfl) (v := ?_) (fun w hSw => ?_) (by assumption) ?_; rotate_left; (focus ((try dsimp only at hSw); go_simp; first | done | exact rfl)); simp only [List.set]
      refine step_read 5 22 rfl rfl (by kernel_rfl) (by kernel_rfl) (by kernel_rfl) (fun _ _ _ h => h) (by rfl) (v := ?_) (fun w hSw => ?_) (by assumption) ?_; rotate_left; (focus ((try dsimp only at hSw); go_simp; first | done | exact rfl)); simp only [List.set]
      refine step_read 6 23 rfl rfl (by kernel_rfl) (by kernel_rfl) (by kernel_rfl) (fun _ _ _ h => h) (by rfl) (v := ?_) (fun w hSw => ?_) (by assumption) ?_; rotate_left; (focus ((try dsimp only at hSw); go_simp; first | done | exact rfl)); simp only [List.set]
      refine step_read 7 24 rfl rfl (by kernel_rfl) (by kernel_rfl) (by kernel_rfl) (fun _ _ _ h => h) (by rfl) (v := ?_) (fun w hSw => ?_) (by assumption) ?_; rotate_left; (focus ((try dsimp only at hSw); go_simp; first | done | exact rfl)); simp only [List.set]
      (refine wpAnyH_ready (rs := [8]) (by kernel_rfl) (by simp) ?_; refine AllReadyH.cons rfl (fun K hK => ?_) AllReadyH.nil; go_simp; (go_at_call 19; refine (eqIntS_same (ZZ k) (ZZ k).length _ _ _ _ _ _ _ (R1.out.below (rr2_out (by assumption)).2 (by omega)) (R2.out.below (rr2_out (by assumption)).2 (by omega)) (by have hq := (rr2_out (by assumption)).1; omega) (by have hq := (rr2_out (by assumption)).1; omega)).mono ?_; rintro e w9 ⟨rfl, hb⟩); refine hK.out _ _ ?_ (fun hHeld => ?_); (focus ((first | assumption | exact rr2_start d0 d1 | exact rr2_drew (rr2_start d0 d1) | exact rr2_drew (by assumption) | exact rr2_keep (by omega) (by omega) (by assumption) (by assumption)))); clear hK K)
      refine step_read 9 26 rfl rfl (by kernel_rfl) (by kernel_rfl) (by kernel_rfl) (fun _ _ _ h => h) (by rfl) (v := ?_) (fun w hSw => ?_) (by assumption) ?_; rotate_left; (focus ((try dsimp only at hSw); go_simp; first | done | exact rfl)); simp only [List.set]
      refine wpAnyH_done (by kernel_rfl) ?_ _
      have HE : Hid (Below w.heap.size w w9) := hB.out.trans ((rr2_out (by assumption)).2.mono (by omega))
      go_wp2_with fail
      go_roundw
      case rel => exact ⟨k + 1, by omega, by go_num, HE⟩
      case measure => simp [intOf]; omega
    · have hge : ¬ ((k : Int) < (n : Int)) := by omega
      go_wp2
      go_ret
      exact ⟨rfl, hB.out⟩

/-- What holds behind k rows marked. -/
def mixX (ZZ : Nat → List Int) (k : Nat) (j : Nat) : List Int := if j < k then mkX ZZ j else ZZ j
theorem mixX_len (ZZ : Nat → List Int) (k j : Nat) : (mixX ZZ k j).length = (ZZ j).length := by unfold mixX; split; exact mkX_len ZZ j; rfl
theorem XSt.mark {w w' : World} {lo hi n k : Nat} {v : Value} {ZZ : Nat → List Int} {vs : Nat → Value} {bs : Nat → Nat × Nat} (h : XSt w lo hi v n (mixX ZZ k) vs bs) (hh : hi ≤ w.heap.size) (hk : k < n) (hr : Row 1 w' (bs k).1 (bs k).2 (vs k) (ZZ k).length (mkX ZZ k)) (ht : Turned (bs k).1 (bs k).2 w w') : XSt w' lo hi v n (mixX ZZ (k + 1)) vs bs where
  outer := by
    obtain ⟨h0, a, c, e, h1⟩ := h.outer
    refine ⟨h0, a, c, e, fun hn => ?_⟩
    obtain ⟨G, h2, h3, h4, h5, h6⟩ := h1 hn
    exact ⟨G, h2, h3, h4, fun i hi' => by rw [ht.cell (by omega) (by have := h6 k hk; omega)]; exact h5 i hi', h6⟩
  inner i hi' := by
    obtain ⟨h1, h2, h3⟩ := h.inner i hi'
    refine ⟨?_, h2, h3⟩
    rw [mixX_len] at h1 ⊢
    by_cases e : i = k
    · subst e
      have : mixX ZZ (i + 1) i = mkX ZZ i := by unfold mixX; rw [if_pos (by omega)]
      rw [this]; exact hr
    · have : mixX ZZ (k + 1) i = mixX ZZ k i := by
        unfold mixX
        by_cases e2 : i < k
        · rw [if_pos (by omega), if_pos e2]
        · rw [if_neg (by omega), if_neg e2]
      rw [this]
      refine ht.row h1 (by omega) ?_
      by_cases e2 : i < k
      · exact .inl (h.apart i k e2 hk)
      · exact .inr (h.apart k i (by omega) hi')
  apart := h.apart
set_option maxRecDepth 100000 in
set_option maxHeartbeats 2400000 in
theorem markIntSS_K (K : Int) (ZZ : Nat → List Int) (n lo hi : Nat) (v : Value) (w : World) (hK : K = 1 + ((offX ZZ n : Nat) : Int)) (hr : RowX w lo hi v n ZZ) (hh : hi ≤ w.heap.size) (hT : offX ZZ n ≤ 1000000) :
    Calls Try.prog 27 #[v, .int .i64 1] w fun e w' => e = .returned (.int .i64 K) ∧ RowX w' lo hi v n (mkX ZZ) ∧ TurnedX lo hi w w' := by
  subst hK
  obtain ⟨vs, bs, X⟩ := hr
  obtain ⟨hn, a, c, rfl, _⟩ := X.outer
  have X0 : Hid (XSt w lo hi (.slice a n c) n (mixX ZZ 0) vs bs) := by
    have : mixX ZZ 0 = ZZ := by funext j; unfold mixX; rw [if_neg (Nat.not_lt_zero _)]
    rw [this]; exact X
  have HT : Hid (TurnedX lo hi w w) := TurnedX.refl _ _ _
  clear X
  go_enter Try.func27, Try.ntmps27
  go_wp2
  go_loopw [1, 5] (fun q i wr => ∃ k : Nat, k ≤ n ∧ i = .int .i64 (k : Int) ∧ q = .int .i64 (1 + (offX ZZ k : Int)) ∧ Hid (XSt wr lo hi (.slice a n c) n (mixX ZZ k) vs bs) ∧ Hid (TurnedX lo hi w wr)) (fun _ i _ => n - (intOf i).toNat)
  case atStart => exact ⟨0, Nat.zero_le _, rfl, rfl, X0, HT⟩
  case round =>
    clear X0 HT
    obtain ⟨k, hk, rfl, rfl, hX, hT2⟩ := hrel
    by_cases hlt : k < n
    · obtain ⟨_, a2, c2, e2, ho⟩ := hX.out.outer
      cases e2
      obtain ⟨G, rfl, g1, g2, g3, _⟩ := ho (by omega)
      have d0 : wr.cell? ⟨G, k, none⟩ = some (vs k) := g3 k hlt
      obtain ⟨i1, i2, i3⟩ := hX.out.inner k hlt
      rw [mixX_len] at i1
      have R1 := Lib.hid i1
      have hsz := hT2.out.size
      have hGl : G < wr.heap.size := by omega
      have hk0 : (0 : Int) ≤ (k : Int) := by omega
      have hk1 : (k : Int) < (n : Int) := by omega
      have hm := offX_mono ZZ (show k + 1 ≤ n by omega)
      have hm2 : offX ZZ (k + 1) = offX ZZ k + (ZZ k).length := rfl
      clear g3 i1 ho
      go_wp2_with fail
      go_at_call 22
      refine (markIntS_any (1 + (offX ZZ k : Int)) _ _ _ _ _ _ (by omega) (by omega) R1.out).mono ?_
      rintro e w9 ⟨rfl, hr9, ht9⟩
      have HX9 : Hid (XSt w9 lo hi (.slice (some ⟨G, 0, none⟩) n c) n (mixX ZZ (k + 1)) vs bs) := hX.out.mark (by omega) hlt hr9 ht9
      have HT9 : Hid (TurnedX lo hi w w9) := hT2.out.trans (ht9.toX i2 i3)
      have e9 : (1 : Int) + (offX ZZ k : Int) + (((ZZ k).length * 1 : Nat) : Int) = 1 + (offX ZZ (k + 1) : Int) := by rw [hm2]; omega
      rw [e9]
      clear hr9 ht9 hm hm2 e9
      go_wp2_with fail
      go_roundw
      case rel => exact ⟨k + 1, by omega, by go_num, rfl, HX9, HT9⟩
      case measure => simp [intOf]; omega
    · obtain rfl : n = k := by omega
      have hge : ¬ ((n : Int) < (n : Int)) := by omega
      go_wp2
      go_ret
      refine ⟨rfl, ⟨vs, bs, hX.out.outer, fun i hi' => ?_, hX.out.apart⟩, hT2.out⟩
      have := hX.out.inner i hi'
      rw [mixX_len] at this
      have e : mixX ZZ n i = mkX ZZ i := by unfold mixX; rw [if_pos hi']
      rw [e] at this
      rw [mkX_len]; exact this
set_option maxRecDepth 100000 in
set_option maxHeartbeats 2400000 in
theorem heldIntSS_K (K : Int) (ZZ : Nat → List Int) (n lo hi : Nat) (v : Value) (w : World) (hK : K = 1 + ((offX ZZ n : Nat) : Int)) (hr : RowX w lo hi v n (mkX ZZ)) (hT : offX ZZ n ≤ 1000000) :
    Calls Try.prog 28 #[v, .int .i64 1] w fun e w' => e = .returned (.int .i64 K) ∧ w = w' := by
  subst hK
  obtain ⟨vs, bs, X⟩ := hr
  obtain ⟨hn, a, c, rfl, ho⟩ := X.outer
  have HX := Lib.hid X
  have HO := Lib.hid ho
  clear X ho
  go_enter Try.func28, Try.ntmps28
  go_wp2
  go_loop [1, 5] (fun q i => ∃ k : Nat, k ≤ n ∧ i = .int .i64 (k : Int) ∧ q = .int .i64 (1 + (offX ZZ k : Int))) (fun _ i => n - (intOf i).toNat)
  case atStart => exact ⟨0, Nat.zero_le _, rfl, rfl⟩
  case round =>
    obtain ⟨k, hk, rfl, rfl⟩ := hrel
    by_cases hlt : k < n
    · obtain ⟨G, rfl, g1, g2, g3, _⟩ := HO.out (by omega)
      have d0 : w.cell? ⟨G, k, none⟩ = some (vs k) := g3 k hlt
      obtain ⟨i1, _, _⟩ := HX.out.inner k hlt
      rw [mkX_len] at i1
      have R1 := Lib.hid i1
      have hk0 : (0 : Int) ≤ (k : Int) := by omega
      have hk1 : (k : Int) < (n : Int) := by omega
      have hm := offX_mono ZZ (show k + 1 ≤ n by omega)
      have hm2 : offX ZZ (k + 1) = offX ZZ k + (ZZ k).length := rfl
      clear g3 i1
      go_wp2_with fail
      go_at_call 23
      refine (heldIntS_any (1 + (offX ZZ k : Int)) _ _ _ _ _ (by omega) (by omega) R1.out).mono ?_
      rintro e w9 ⟨rfl, rfl⟩
      have e9 : (1 : Int) + (offX ZZ k : Int) + (((ZZ k).length * 1 : Nat) : Int) = 1 + (offX ZZ (k + 1) : Int) := by rw [hm2]; omega
      have e8 : ¬ ((1 : Int) + (offX ZZ (k + 1) : Int) < 0) := by omega
      rw [e9]
      clear hm hm2 e9
      go_wp2_with fail
      go_round
      case rel => exact ⟨k + 1, by omega, by go_num, rfl⟩
      case measure => simp [intOf]; omega
    · obtain rfl : n = k := by omega
      have hge : ¬ ((n : Int) < (n : Int)) := by omega
      go_wp2
      go_ret
      exact ⟨rfl, rfl⟩

end Go.Proofs.Ytkkfgnnhdcmmjaa
