/- The marks of the model as a contract. -/
import Derived.Test.YtpfeekdmeloakaaCp
import Derived.Laws.OwnMore
namespace Go.Proofs.Ytpfeekdmeloakaa
open Go.RowKit


/-- Block g, new since w, holds the marks f. -/
def Mrk (w wr : World) (g : Nat) (f : Nat → Bool) : Prop :=
  Below w.heap.size w wr ∧ w.heap.size ≤ g ∧ g < wr.heap.size ∧ (∀ o, wr.frozen? ⟨g, o, none⟩ = false) ∧ ∀ a, a < 65536 → wr.cell? ⟨g, a, none⟩ = some (.bool (f a))
theorem Mrk.below {w wr w2 : World} {g : Nat} {f : Nat → Bool} (h : Mrk w wr g f) (hb : Below wr.heap.size wr w2) : Mrk w w2 g f := by
  obtain ⟨h1, h2, h3, h4, h5⟩ := h
  have hs := hb.size
  exact ⟨chain h1 hb, h2, by omega, fun o => by rw [hb.frozen (p := ⟨g, o, none⟩) h3]; exact h4 o, fun a ha => by rw [hb.cell (p := ⟨g, a, none⟩) h3]; exact h5 a ha⟩
theorem Mrk.set {w wr : World} {g x : Nat} {f f' : Nat → Bool} (h : Mrk w wr g f) (hx : x < 65536) (hf : ∀ a, a < 65536 → f' a = (f a || decide (a = x))) : Mrk w (wr.setCell ⟨g, x, none⟩ (.bool true)) g f' := by
  obtain ⟨h1, h2, h3, h4, h5⟩ := h
  refine ⟨h1.setCell h2 _, h2, by simpa [World.setCell] using h3, fun o => by simp [h4], fun a ha => ?_⟩
  rw [hf a ha]
  by_cases e : a = x
  · subst e
    rw [World.cell?_setCell_same' _ _ _ (by rw [h5 a ha]; rfl)]
    simp
  · rw [World.cell?_setCell_other _ _ _ _ (by simp <;> omega), h5 a ha]
    simp [e]
theorem Mrk.congr {w wr : World} {g : Nat} {f f' : Nat → Bool} (h : Mrk w wr g f) (hf : ∀ a, a < 65536 → f' a = f a) : Mrk w wr g f' :=
  ⟨h.1, h.2.1, h.2.2.1, h.2.2.2.1, fun a ha => by rw [hf a ha]; exact h.2.2.2.2 a ha⟩

theorem Try.info4 : (Try.prog.info? 4).map (fun i => (i.zero, i.size, i.bytes)) = some (some (.bool false), 1, 1) := by kernel_rfl
theorem made_bools (n : Nat) : (madeCells #[Value.bool false] (n * 1)).toList = List.replicate n (.bool false) := by rw [Nat.mul_one]; exact toList_madeCells_one _ _
theorem Mrk.start {w w1 : World} {e : TypeId} {xs : List Value} (hx : xs = List.replicate 65536 (.bool false)) (h : w1.ownsRow w.heap.size e 1 (.slice (some ⟨w.heap.size, 0, none⟩) 65536 65536) 65536 xs) (hg : w.grownBy w1 none) : Mrk w w1 w.heap.size (fun _ => false) := by
  refine ⟨(Below.refl _ _).grown hg (Nat.le_refl _) (fun k hk => by cases hk), Nat.le_refl _, (h.lt w.heap.size rfl).2, fun o => h.frozenAt o, fun a ha => ?_⟩
  rw [h.cellAt a (by omega), hx, List.getElem?_replicate, if_pos ha]

theorem anyP_succ {L : List Pf} {k : Nat} {p : Pf} (h : L[k]? = some p) (a : Nat) : anyP (L.take (k + 1)) a = (anyP (L.take k) a || inP p a) := by
  have hk : k < L.length := (List.getElem?_eq_some_iff.1 h).1
  have e : L.take (k + 1) = L.take k ++ [p] := by
    rw [List.take_succ_eq_append_getElem hk]
    congr 2
    exact (List.getElem?_eq_some_iff.1 h).2
  rw [e]
  simp [anyP]
/-- What the marks are while one prefix is being marked. -/
def part (L : List Pf) (k : Nat) (net : Int) (m : Nat) (a : Nat) : Bool := anyP (L.take k) a || inR net (net + (m : Int) - 1) a

def Allv (L : List Pf) (k : Nat) : Prop := ∀ i, i < k → ∀ p, L[i]? = some p → pokB p.1 p.2 = true

set_option maxHeartbeats 4000000 in
theorem marks_some (g0 n cap : Nat) (L : List Pf) (w : World) (hn : L.length = n) (hl : n ≤ 300) (hg : g0 < w.heap.size) (h : ∀ q z, (flat2 L)[q]? = some z → w.cell? ⟨g0, q, none⟩ = some (.int .i64 z)) (hok : ∀ (i : Nat) (p : Pf), L[i]? = some p → pokB p.1 p.2 = true) :
    Calls Try.prog 77 #[.slice (some ⟨g0, 0, none⟩) n cap] w fun e w' => e = .returned (.tuple #[.slice (some ⟨w.heap.size, 0, none⟩) 65536 65536, .bool true]) ∧ Mrk w w' w.heap.size (anyP L) := by
  have Hn := Lib.hid hn
  have H := Lib.hid h
  have Hok := Lib.hid hok
  obtain ⟨i4, hi, hz0, hz1, hz2⟩ := info_parts Try.info4
  clear h hn hok
  have h300 : ¬ ((300 : Int) < (n : Int)) := by omega
  go_enter Try.func77, Try.ntmps77
  go_wp2_with (at_make; refine wpList_make_full _ rfl _ _ 94 rfl w.heap.size 4 i4 (.bool false) 1 Try.underlying94 hi hz0 hz1 .i64 .i64 65536 65536 65536 rfl rfl rfl rfl (by rw [hz2]; decide) (by unfold maxLen; decide) (Nat.le_refl _) ?_)
  intro w1 hown hgr
  have HM := Lib.hid (Mrk.start (made_bools 65536) hown hgr)
  clear hi hz0 hz1 hz2 hown hgr
  go_wp2
  go_loopw [5, 6] (fun i _ wr => ∃ k : Nat, k ≤ n ∧ i = .int .i64 (k : Int) ∧ Hid (Mrk w wr w.heap.size (anyP (L.take k)))) (fun i _ _ => n - (intOf i).toNat)
  case atStart => exact ⟨0, Nat.zero_le _, rfl, by rw [List.take_zero]; exact HM⟩
  case round =>
    obtain ⟨k, hk, rfl, hM⟩ := hrel
    by_cases hlt : k < n
    · obtain ⟨r, hr⟩ : ∃ r, L[k]? = some r := ⟨L[k]'(by rw [Hn.out]; exact hlt), List.getElem?_eq_getElem _⟩
      have hp := Hok.out k r hr
      obtain ⟨a, b⟩ := r
      obtain ⟨v0, v1, v2, v3, _⟩ := pokB_true hp
      obtain ⟨_, _, v4, _, _⟩ := pok_in hp
      have p0 := psz_pos b v0 v1
      obtain ⟨r0, r1⟩ := flat2_at L k _ hr
      have c1 := H.out _ _ r0
      have c2 := H.out _ _ r1
      have k1 : wr.cell? ⟨g0, k * 2, none⟩ = some (.int .i64 a) := by rw [hM.out.1.cell (p := ⟨g0, k * 2, none⟩) hg]; exact c1
      have k2 : wr.cell? ⟨g0, k * 2 + 1, none⟩ = some (.int .i64 b) := by rw [hM.out.1.cell (p := ⟨g0, k * 2 + 1, none⟩) hg]; exact c2
      have HL := Lib.hid hr
      have HC := Lib.hid (And.intro c1 c2)
      dsimp only at v0 v1 v2 v3 v4
      have HK := spok_any a b
      rw [hp] at HK
      have Hp := Lib.hid hp
      clear hr hp r0 r1 c1 c2
      have q0 : (0 : Int) ≤ (k : Int) := by omega
      have q1 : (k : Int) < (n : Int) := by omega
      go_wp2_with (go_at_call 58; refine (HK _).mono ?_; rintro e w2 ⟨rfl, hb⟩; have HM2 := Lib.hid (hM.out.below hb); clear hb k1 k2)
      go_loopw [6] (fun j wi => ∃ m : Nat, (m : Int) ≤ psz b ∧ j = .int .i64 (m : Int) ∧ Hid (Mrk w wi w.heap.size (part L k a m))) (fun j _ => (psz b - intOf j).toNat)
      case atStart => exact ⟨0, by omega, rfl, HM2.out.congr fun x hx => by unfold part inR; rw [decide_eq_false (by omega), Bool.or_false]⟩
      case round =>
        obtain ⟨m, hm, rfl, hM3⟩ := hrel
        have k1 : wr.cell? ⟨g0, k * 2, none⟩ = some (.int .i64 a) := by rw [hM3.out.1.cell (p := ⟨g0, k * 2, none⟩) hg]; exact HC.out.1
        have k2 : wr.cell? ⟨g0, k * 2 + 1, none⟩ = some (.int .i64 b) := by rw [hM3.out.1.cell (p := ⟨g0, k * 2 + 1, none⟩) hg]; exact HC.out.2
        by_cases hlm : (m : Int) < psz b
        · obtain ⟨x, hx⟩ : ∃ x : Nat, a + (m : Int) = (x : Int) := ⟨(a + (m : Int)).toNat, by omega⟩
          have hx0 : x < 65536 := by omega
          have km := hM3.out.2.2.2.2 x hx0
          have fm := hM3.out.2.2.2.1 x
          have x0 : (0 : Int) ≤ (x : Int) := by omega
          have x1 : (x : Int) < 65536 := by omega
          have HS : Hid (Mrk w (wr.setCell ⟨w.heap.size, x, none⟩ (.bool true)) w.heap.size (part L k a (m + 1))) := hM3.out.set hx0 fun y hy => by
            unfold part inR
            rw [Bool.or_assoc]
            congr 1
            rw [Bool.eq_iff_iff]
            simp only [Bool.or_eq_true, decide_eq_true_eq]
            push_cast
            omega
          go_wp2_with (go_at_call 100; refine (spsize_any b _ v0 v1).mono ?_; rintro e w' ⟨rfl, rfl⟩)
          go_roundw
          case rel => exact ⟨m + 1, by push_cast; omega, by go_num, HS⟩
          case measure => simp [intOf]; omega
        · have HS : Hid (Mrk w wr w.heap.size (anyP (L.take (k + 1)))) := hM3.out.congr fun x _ => by
            have e : (m : Int) = psz b := by omega
            rw [anyP_succ HL.out]
            unfold part inP
            rw [e]
          go_wp2_with (go_at_call 100; refine (spsize_any b _ v0 v1).mono ?_; rintro e w' ⟨rfl, rfl⟩)
          go_roundw
          case rel => exact ⟨k + 1, by omega, by go_num, HS⟩
          case measure => simp [intOf]; omega
    · have hge : ¬ ((k : Int) < (n : Int)) := by omega
      obtain rfl : k = n := by omega
      have HS : Hid (Mrk w wr w.heap.size (anyP L)) := hM.out.congr fun x _ => by rw [List.take_of_length_le (by rw [Hn.out]; exact Nat.le_refl _)]
      go_wp2
      go_ret2
      exact ⟨rfl, HS.out⟩

set_option maxHeartbeats 4000000 in
theorem marks_bad (g0 n cap : Nat) (L : List Pf) (w : World) (hn : L.length = n) (hl : n ≤ 300) (hg : g0 < w.heap.size) (h : ∀ q z, (flat2 L)[q]? = some z → w.cell? ⟨g0, q, none⟩ = some (.int .i64 z)) (b0 : Nat) (pb : Pf) (hb0 : L[b0]? = some pb) (hbad : pokB pb.1 pb.2 = false) (hok : ∀ (i : Nat) (p : Pf), i < b0 → L[i]? = some p → pokB p.1 p.2 = true) :
    Calls Try.prog 77 #[.slice (some ⟨g0, 0, none⟩) n cap] w fun e w' => e = .returned (.tuple #[.slice none 0 0, .bool false]) ∧ Below w.heap.size w w' := by
  have Hn := Lib.hid hn
  have H := Lib.hid h
  have Hok := Lib.hid hok
  have Hb := Lib.hid (And.intro hb0 hbad)
  have hbn : b0 < n := by rw [← hn]; exact (List.getElem?_eq_some_iff.1 hb0).1
  obtain ⟨i4, hi, hz0, hz1, hz2⟩ := info_parts Try.info4
  clear h hn hok hb0 hbad
  have h300 : ¬ ((300 : Int) < (n : Int)) := by omega
  go_enter Try.func77, Try.ntmps77
  go_wp2_with (at_make; refine wpList_make_full _ rfl _ _ 94 rfl w.heap.size 4 i4 (.bool false) 1 Try.underlying94 hi hz0 hz1 .i64 .i64 65536 65536 65536 rfl rfl rfl rfl (by rw [hz2]; decide) (by unfold maxLen; decide) (Nat.le_refl _) ?_)
  intro w1 hown hgr
  have HM := Lib.hid (Mrk.start (made_bools 65536) hown hgr)
  clear hi hz0 hz1 hz2 hown hgr
  go_wp2
  go_loopw [5, 6] (fun i _ wr => ∃ k : Nat, k ≤ b0 ∧ i = .int .i64 (k : Int) ∧ ∃ f, Hid (Mrk w wr w.heap.size f)) (fun i _ _ => n - (intOf i).toNat)
  case atStart => exact ⟨0, Nat.zero_le _, rfl, _, HM⟩
  case round =>
    obtain ⟨k, hk, rfl, f, hM⟩ := hrel
    have hlt : k < n := by omega
    obtain ⟨r, hr⟩ : ∃ r, L[k]? = some r := ⟨L[k]'(by rw [Hn.out]; exact hlt), List.getElem?_eq_getElem _⟩
    obtain ⟨r0, r1⟩ := flat2_at L k _ hr
    have c1 := H.out _ _ r0
    have c2 := H.out _ _ r1
    have k1 : wr.cell? ⟨g0, k * 2, none⟩ = some (.int .i64 r.1) := by rw [hM.out.1.cell (p := ⟨g0, k * 2, none⟩) hg]; exact c1
    have k2 : wr.cell? ⟨g0, k * 2 + 1, none⟩ = some (.int .i64 r.2) := by rw [hM.out.1.cell (p := ⟨g0, k * 2 + 1, none⟩) hg]; exact c2
    have q0 : (0 : Int) ≤ (k : Int) := by omega
    have q1 : (k : Int) < (n : Int) := by omega
    by_cases hkb : k = b0
    · have hp : pokB r.1 r.2 = false := by
        have := Hb.out.1
        rw [← hkb, hr] at this
        cases this
        exact Hb.out.2
      obtain ⟨a, b⟩ := r
      dsimp only at hp k1 k2
      have HK := spok_any a b
      rw [hp] at HK
      have Hkb := Lib.hid hkb
      clear hr hp r0 r1 c1 c2 hkb
      go_wp2_with (go_at_call 58; refine (HK _).mono ?_; rintro e w2 ⟨rfl, hb⟩; have HM2 := Lib.hid (hM.out.below hb); clear hb k1 k2)
      go_ret2
      exact ⟨rfl, HM2.out.1⟩
    · have hp := Hok.out k r (by omega) hr
      obtain ⟨a, b⟩ := r
      obtain ⟨v0, v1, v2, v3, _⟩ := pokB_true hp
      obtain ⟨_, _, v4, _, _⟩ := pok_in hp
      have p0 := psz_pos b v0 v1
      have HC := Lib.hid (And.intro c1 c2)
      dsimp only at v0 v1 v2 v3 v4 hp k1 k2
      have HK := spok_any a b
      rw [hp] at HK
      clear hr hp r0 r1 c1 c2
      go_wp2_with (go_at_call 58; refine (HK _).mono ?_; rintro e w2 ⟨rfl, hb⟩; have HM2 := Lib.hid (hM.out.below hb); clear hb k1 k2)
      go_loopw [6] (fun j wi => ∃ m : Nat, (m : Int) ≤ psz b ∧ j = .int .i64 (m : Int) ∧ ∃ f, Hid (Mrk w wi w.heap.size f)) (fun j _ => (psz b - intOf j).toNat)
      case atStart => exact ⟨0, by omega, rfl, _, HM2⟩
      case round =>
        obtain ⟨m, hm, rfl, f, hM3⟩ := hrel
        have k1 : wr.cell? ⟨g0, k * 2, none⟩ = some (.int .i64 a) := by rw [hM3.out.1.cell (p := ⟨g0, k * 2, none⟩) hg]; exact HC.out.1
        have k2 : wr.cell? ⟨g0, k * 2 + 1, none⟩ = some (.int .i64 b) := by rw [hM3.out.1.cell (p := ⟨g0, k * 2 + 1, none⟩) hg]; exact HC.out.2
        by_cases hlm : (m : Int) < psz b
        · obtain ⟨x, hx⟩ : ∃ x : Nat, a + (m : Int) = (x : Int) := ⟨(a + (m : Int)).toNat, by omega⟩
          have hx0 : x < 65536 := by omega
          have km := hM3.out.2.2.2.2 x hx0
          have fm := hM3.out.2.2.2.1 x
          have x0 : (0 : Int) ≤ (x : Int) := by omega
          have x1 : (x : Int) < 65536 := by omega
          have HS : Hid (Mrk w (wr.setCell ⟨w.heap.size, x, none⟩ (.bool true)) w.heap.size (fun a => f a || decide (a = x))) := hM3.out.set hx0 fun y hy => rfl
          go_wp2_with (go_at_call 100; refine (spsize_any b _ v0 v1).mono ?_; rintro e w' ⟨rfl, rfl⟩)
          go_roundw
          case rel => exact ⟨m + 1, by push_cast; omega, by go_num, _, HS⟩
          case measure => simp [intOf]; omega
        · go_wp2_with (go_at_call 100; refine (spsize_any b _ v0 v1).mono ?_; rintro e w' ⟨rfl, rfl⟩)
          go_roundw
          case rel => exact ⟨k + 1, by omega, by go_num, _, hM3⟩
          case measure => simp [intOf]; omega

set_option maxHeartbeats 1000000 in
theorem marks_big (a : Option Addr) (n c : Nat) (w : World) (h : 300 < n) (hn : n ≤ 1100000) :
    Calls Try.prog 77 #[.slice a n c] w fun e w' => e = .returned (.tuple #[.slice none 0 0, .bool false]) ∧ Below w.heap.size w w' := by
  have h1 : (300 : Int) < (n : Int) := by omega
  go_enter Try.func77, Try.ntmps77
  go_wp2
  go_ret2
  exact ⟨rfl, Below.refl _ _⟩

set_option maxHeartbeats 1000000 in
theorem marks_nil (a : Option Addr) (c : Nat) (w : World) :
    Calls Try.prog 77 #[.slice a 0 c] w fun e w' => e = .returned (.tuple #[.slice (some ⟨w.heap.size, 0, none⟩) 65536 65536, .bool true]) ∧ Mrk w w' w.heap.size (anyP []) := by
  obtain ⟨i4, hi, hz0, hz1, hz2⟩ := info_parts Try.info4
  go_enter Try.func77, Try.ntmps77
  go_wp2_with (at_make; refine wpList_make_full _ rfl _ _ 94 rfl w.heap.size 4 i4 (.bool false) 1 Try.underlying94 hi hz0 hz1 .i64 .i64 65536 65536 65536 rfl rfl rfl rfl (by rw [hz2]; decide) (by unfold maxLen; decide) (Nat.le_refl _) ?_)
  intro w1 hown hgr
  have HM := Lib.hid (Mrk.start (made_bools 65536) hown hgr)
  clear hi hz0 hz1 hz2 hown hgr
  go_wp2
  go_loopw [5, 6] (fun i _ wr => i = .int .i64 0 ∧ Hid (Mrk w wr w.heap.size (anyP []))) (fun i _ _ => (intOf i).toNat)
  case atStart => exact ⟨rfl, HM⟩
  case round =>
    obtain ⟨rfl, hM⟩ := hrel
    go_wp2
    go_ret2
    exact ⟨rfl, hM.out⟩

/-- What the marks of the model are, of every list. -/
def MrkPost (w : World) (L : List Pf) (e : Ending) (w' : World) : Prop :=
  (allOk L = true ∧ e = .returned (.tuple #[.slice (some ⟨w.heap.size, 0, none⟩) 65536 65536, .bool true]) ∧ Mrk w w' w.heap.size (anyP L)) ∨
  (allOk L = false ∧ e = .returned (.tuple #[.slice none 0 0, .bool false]) ∧ Below w.heap.size w w')
theorem marks_any (lo hi n : Nat) (v : Value) (L : List Pf) (w : World) (hL : L.length = n) (hr : Row 2 w lo hi v n (flat2 L)) (hh : hi ≤ w.heap.size) (hl : n ≤ 1100000) :
    Calls Try.prog 77 #[v] w (MrkPost w L) := by
  obtain ⟨ad, c, rfl⟩ := hr.slice
  by_cases h3 : n ≤ 300
  · by_cases hall : ∀ (i : Nat) (p : Pf), L[i]? = some p → pokB p.1 p.2 = true
    · have hok : allOk L = true := by
        unfold allOk
        rw [hL, decide_eq_true h3, Bool.true_and, List.all_eq_true]
        intro x hx
        obtain ⟨i, hi⟩ := List.getElem?_of_mem hx
        exact hall i x hi
      rcases hr.2 with ⟨rfl, a', c', e⟩ | ⟨g, cap, e, h1, h2, h3', h4, h5⟩
      · have : L = [] := List.eq_nil_of_length_eq_zero hL
        subst this
        exact (marks_nil ad c w).mono fun _ _ h => .inl ⟨hok, h.1, h.2⟩
      · simp only [Value.slice.injEq, true_and] at e
        obtain ⟨rfl, rfl⟩ := e
        exact (marks_some g n _ L w hL h3 (by omega) h4 hall).mono fun _ _ h => .inl ⟨hok, h.1, h.2⟩
    · have hno : allOk L = false := by
        rw [Bool.eq_false_iff]
        intro ha
        unfold allOk at ha
        rw [Bool.and_eq_true, List.all_eq_true] at ha
        exact hall fun i p hp => ha.2 p (List.mem_of_getElem? hp)
      have hb : 0 ≤ badI L := by
        have := badI_ok L
        have h2 : (L.all fun p => pokB p.1 p.2) = false := by
          unfold allOk at hno
          rw [hL, decide_eq_true h3, Bool.true_and] at hno
          exact hno
        rw [h2] at this
        exact of_decide_eq_true this
      unfold badI at hb
      cases hf : L.findIdx? (fun p => !pokB p.1 p.2) with
      | none => rw [hf] at hb; simp at hb
      | some b0 =>
        rw [List.findIdx?_eq_some_iff_getElem] at hf
        obtain ⟨hlt, hx, hbef⟩ := hf
        rcases hr.2 with ⟨rfl, a', c', e⟩ | ⟨g, cap, e, h1, h2, h3', h4, h5⟩
        · omega
        · simp only [Value.slice.injEq, true_and] at e
          obtain ⟨rfl, rfl⟩ := e
          refine (marks_bad g n _ L w hL h3 (by omega) h4 b0 L[b0] (List.getElem?_eq_getElem hlt) (by simpa using hx) (fun i p hi hp => ?_)).mono fun _ _ h => .inr ⟨hno, h.1, h.2⟩
          have := hbef i hi
          rw [List.getElem?_eq_getElem (by omega)] at hp
          cases hp
          simpa using this
  · have hno : allOk L = false := by unfold allOk; rw [hL, decide_eq_false h3, Bool.false_and]
    exact (marks_big ad n c w (by omega) hl).mono fun _ _ h => .inr ⟨hno, h.1, h.2⟩

/-- How many addresses; -1 of a list that is not valid. -/
def cntO (L : List Pf) : Int := if allOk L = true then (cntP L : Int) else -1

set_option maxHeartbeats 2000000 in
theorem scount_yes (ad : Option Addr) (n c : Nat) (L : List Pf) (w : World)
    (hm : Calls Try.prog 77 #[.slice ad n c] w fun e w' => e = .returned (.tuple #[.slice (some ⟨w.heap.size, 0, none⟩) 65536 65536, .bool true]) ∧ Mrk w w' w.heap.size (anyP L)) :
    Calls Try.prog 40 #[.slice ad n c] w fun e w' => e = .returned (.int .i64 (cntP L : Int)) ∧ Below w.heap.size w w' := by
  have Hm := Lib.hid hm
  clear hm
  go_enter Try.func40, Try.ntmps40
  go_wp2_with fail
  go_at_call 77
  refine Hm.out.mono ?_
  rintro e w1 ⟨rfl, hM⟩
  have HM := Lib.hid hM
  clear hM
  go_wp2
  go_loop [5, 6] (fun s i => ∃ k : Nat, k ≤ 65536 ∧ i = .int .i64 (k : Int) ∧ s = .int .i64 (cnt (anyP L) k : Int)) (fun _ i => 65536 - (intOf i).toNat)
  case atStart => exact ⟨0, Nat.zero_le _, rfl, rfl⟩
  case round =>
    obtain ⟨k, hk, rfl, rfl⟩ := hrel
    have hle := cnt_le (anyP L) k
    by_cases hlt : k < 65536
    · have kk := HM.out.2.2.2.2 k hlt
      have q0 : (0 : Int) ≤ (k : Int) := by omega
      have q1 : (k : Int) < 65536 := by omega
      have hs : cnt (anyP L) (k + 1) = cnt (anyP L) k + (if anyP L k then 1 else 0) := rfl
      have HS := Lib.hid hs
      clear hs
      by_cases hf : anyP L k = true
      · rw [hf] at kk
        have Hf := Lib.hid hf
        clear hf
        go_wp2
        go_round
        case rel => exact ⟨k + 1, by omega, by go_num, by rw [HS.out, Hf.out]; go_num⟩
        case measure => simp [intOf]; omega
      · rw [Bool.not_eq_true] at hf
        rw [hf] at kk
        have Hf := Lib.hid hf
        clear hf
        go_wp2
        go_round
        case rel => exact ⟨k + 1, by omega, by go_num, by rw [HS.out, Hf.out]; go_num⟩
        case measure => simp [intOf]; omega
    · have hge : ¬ ((k : Int) < 65536) := by omega
      obtain rfl : k = 65536 := by omega
      have HF : Hid (cntP L = cnt (anyP L) 65536) := rfl
      generalize cnt (anyP L) 65536 = z at *
      go_wp2
      go_ret
      exact ⟨ret_int (by rw [HF.out]), HM.out.1⟩

set_option maxHeartbeats 1000000 in
theorem scount_no (ad : Option Addr) (n c : Nat) (w : World)
    (hm : Calls Try.prog 77 #[.slice ad n c] w fun e w' => e = .returned (.tuple #[.slice none 0 0, .bool false]) ∧ Below w.heap.size w w') :
    Calls Try.prog 40 #[.slice ad n c] w fun e w' => e = .returned (.int .i64 (-1)) ∧ Below w.heap.size w w' := by
  have Hm := Lib.hid hm
  clear hm
  go_enter Try.func40, Try.ntmps40
  go_wp2_with (go_at_call 77; refine Hm.out.mono ?_; rintro e w1 ⟨rfl, hb⟩)
  go_ret
  exact ⟨rfl, hb⟩

theorem scount_any (lo hi n : Nat) (v : Value) (L : List Pf) (w : World) (hL : L.length = n) (hr : Row 2 w lo hi v n (flat2 L)) (hh : hi ≤ w.heap.size) (hl : n ≤ 1100000) :
    Calls Try.prog 40 #[v] w fun e w' => e = .returned (.int .i64 (cntO L)) ∧ Below w.heap.size w w' := by
  have hm := marks_any lo hi n v L w hL hr hh hl
  obtain ⟨ad, c, rfl⟩ := hr.slice
  unfold cntO
  by_cases ha : allOk L = true
  · rw [if_pos ha]
    exact scount_yes ad n c L w (hm.mono fun _ _ h => by rcases h with h | h; exact h.2; rw [ha] at h; cases h.1)
  · rw [if_neg ha]
    rw [Bool.not_eq_true] at ha
    exact scount_no ad n c w (hm.mono fun _ _ h => by rcases h with h | h; (rw [ha] at h; cases h.1); exact h.2)

end Go.Proofs.Ytpfeekdmeloakaa
