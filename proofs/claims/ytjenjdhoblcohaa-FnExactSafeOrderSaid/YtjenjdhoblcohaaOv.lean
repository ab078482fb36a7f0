/- The safe order of the model. -/
import Derived.Test.YtjenjdhoblcohaaOu
import Derived.Test.YtjenjdhoblcohaaWj
import Derived.Test.YtjenjdhoblcohaaGd
import Derived.Test.YtjenjdhoblcohaaWn
namespace Go.Proofs.Ytjenjdhoblcohaa
open Go.RowKit

def lenV : Value → Nat
  | .slice _ n _ => n
  | _ => 0
/-- The best of the first x nodes that are not yet taken. -/
def BestS (D : Int → Int) (O : List Int) (x : Nat) (q : Int) : Prop :=
  (q = -1 ∧ ∀ y : Nat, y < x → (y : Int) ∈ O) ∨ (0 ≤ q ∧ q < (x : Int) ∧ q ∉ O ∧ ∀ y : Nat, y < x → (y : Int) ∉ O → keyO D q ≤ keyO D (y : Int))
theorem BestS.zero (D : Int → Int) (O : List Int) : BestS D O 0 (-1) := .inl ⟨rfl, fun _ hy => absurd hy (Nat.not_lt_zero _)⟩
theorem BestS.pass {D : Int → Int} {O : List Int} {x : Nat} {q : Int} (h : BestS D O x q) (hx : (x : Int) ∈ O) : BestS D O (x + 1) q := by
  rcases h with ⟨h1, h2⟩ | ⟨h1, h2, h3, h4⟩
  · refine .inl ⟨h1, fun y hy => ?_⟩
    by_cases e : y = x
    · subst e; exact hx
    · exact h2 y (by omega)
  · refine .inr ⟨h1, by omega, h3, fun y hy hn => ?_⟩
    by_cases e : y = x
    · subst e; exact absurd hx hn
    · exact h4 y (by omega) hn
theorem BestS.first {D : Int → Int} {O : List Int} {x : Nat} (h : BestS D O x (-1)) (hx : (x : Int) ∉ O) : BestS D O (x + 1) (x : Int) := by
  rcases h with ⟨_, h2⟩ | ⟨h1, _⟩
  · refine .inr ⟨by omega, by omega, hx, fun y hy hn => ?_⟩
    by_cases e : y = x
    · subst e; exact Int.le_refl _
    · exact absurd (h2 y (by omega)) hn
  · omega
theorem BestS.take {D : Int → Int} {O : List Int} {x : Nat} {q : Int} (h : BestS D O x q) (h0 : 0 ≤ q) (hx : (x : Int) ∉ O) (hlt : D (x : Int) < D q) (hxl : x < 16) : BestS D O (x + 1) (x : Int) := by
  rcases h with ⟨h1, _⟩ | ⟨h1, h2, h3, h4⟩
  · omega
  · refine .inr ⟨by omega, by omega, hx, fun y hy hn => ?_⟩
    by_cases e : y = x
    · subst e; exact Int.le_refl _
    · have := h4 y (by omega) hn
      have h5 : keyO D (x : Int) ≤ keyO D q := by unfold keyO; omega
      omega
theorem BestS.stay {D : Int → Int} {O : List Int} {x : Nat} {q : Int} (h : BestS D O x q) (h0 : 0 ≤ q) (hlt : ¬ D (x : Int) < D q) : BestS D O (x + 1) q := by
  rcases h with ⟨h1, _⟩ | ⟨h1, h2, h3, h4⟩
  · omega
  · refine .inr ⟨h1, by omega, h3, fun y hy hn => ?_⟩
    by_cases e : y = x
    · subst e; unfold keyO; omega
    · exact h4 y (by omega) hn
theorem BestS.ge {D : Int → Int} {O : List Int} {x : Nat} {q : Int} (h : BestS D O x q) (hn : q ≠ -1) : 0 ≤ q ∧ q < (x : Int) := by
  rcases h with ⟨h1, _⟩ | ⟨h1, h2, _⟩
  · exact absurd h1 hn
  · exact ⟨h1, h2⟩
theorem BestS.done {D : Int → Int} {M m : Nat} {q : Int} (hm : m < M) (hM : M ≤ 16) (h : BestS D ((safeK D M).take m) M q) : (safeK D M).take (m + 1) = (safeK D M).take m ++ [q] := by
  have hl := safeK_len D M
  have hs := safeK_sorted D M hM
  rcases h with ⟨h1, h2⟩ | ⟨h1, h2, h3, h4⟩
  · obtain ⟨z, hz⟩ : ∃ z, (safeK D M)[m]? = some z := ⟨(safeK D M)[m]'(by omega), List.getElem?_eq_getElem _⟩
    have hz0 := (safeK_mem D M z).1 (List.mem_of_getElem? hz)
    have hin := h2 z.toNat (by omega)
    rw [Int.toNat_of_nonneg hz0.1] at hin
    obtain ⟨i, hi, he⟩ := List.mem_iff_getElem.1 hin
    rw [List.length_take] at hi
    rw [List.getElem_take] at he
    obtain ⟨hml, hze⟩ := List.getElem?_eq_some_iff.1 hz
    have := List.pairwise_iff_getElem.1 hs i m (by omega) hml (by omega)
    rw [he, hze] at this
    omega
  · have := safe_next D hm hM ⟨h1, h2⟩ h3 (fun y hy hn => by
      have := h4 y.toNat (by omega) (by rw [Int.toNat_of_nonneg hy.1]; exact hn)
      rw [Int.toNat_of_nonneg hy.1] at this
      exact this)
    rw [List.take_add_one, this]
    rfl

set_option maxRecDepth 100000 in
set_option maxHeartbeats 4000000 in
theorem ssafe_no0 (N : Int) (lo hi n : Nat) (v : Value) (L : List Ed) (d : Int) (w : World) (hL : L.length = n) (hr : Row 3 w lo hi v n (flat L)) (hh : hi ≤ w.heap.size) (hn : gok N L = false) :
    Calls Try.prog 25 #[.agg #[.int .i64 N, v], .int .i64 d] w (LoPost [] w) := by
  have HR := Lib.hid hr
  have Hn := Lib.hid hn
  obtain ⟨ad, cp, rfl⟩ := hr.slice
  clear hr hn
  go_enter Try.func25, Try.ntmps25
  go_wp2_with fail
  go_at_call 47
  refine (sgok_any N lo hi n _ L _ hL (HR.out.below (B := w.heap.size) (by go_grown) (by omega)) (by simp; omega)).mono ?_
  rw [Hn.out]
  rintro e v1 ⟨rfl, hb1⟩
  have sz1 : w.heap.size + 2 ≤ v1.heap.size := by have hh := hb1.size; simp at hh; omega
  have st1 : Below w.heap.size w v1 := Below.trans (by go_grown) (hb1.mono (by simp <;> omega))
  have c1_0 : v1.cell? ⟨w.heap.size, 0, none⟩ = some (.int .i64 N) := by rw [(bcell hb1).1 _ _ (by simp <;> omega), old_box (by simp <;> omega)]; first | (rw [new_at (by simp)]; rfl) | simp
  have c1_1 : v1.cell? ⟨w.heap.size, 1, none⟩ = some (.slice ad n cp) := by rw [(bcell hb1).1 _ _ (by simp <;> omega), old_box (by simp <;> omega)]; first | (rw [new_at (by simp)]; rfl) | simp
  have B1 : Hid (Below w.heap.size w v1) := st1
  have R1_0 : Hid (Row 3 v1 (lo) (hi) (.slice ad n cp) n (flat L)) := HR.out.below st1 (by omega)
  have d1_0 : w.heap.size < v1.heap.size := by omega
  have e1_0 : w.heap.size ≠ v1.heap.size := by omega
  clear st1 HR hb1
  go_wp2_with fail
  go_ret
  exact ⟨_, rfl, Row.empty 1 _ _ _ _ _, B1.out⟩

set_option maxRecDepth 100000 in
set_option maxHeartbeats 4000000 in
theorem ssafe_no1 (N : Int) (lo hi n : Nat) (v : Value) (L : List Ed) (d : Int) (w : World) (hL : L.length = n) (hr : Row 3 w lo hi v n (flat L)) (hh : hi ≤ w.heap.size) (hn : gok N L = true ∧ ndB N d = false) :
    Calls Try.prog 25 #[.agg #[.int .i64 N, v], .int .i64 d] w (LoPost [] w) := by
  have HR := Lib.hid hr
  have Hn := Lib.hid hn
  obtain ⟨ad, cp, rfl⟩ := hr.slice
  clear hr hn
  have hN1 := (gok_parts Hn.out.1).1
  have hN2 := (gok_parts Hn.out.1).2.1
  go_enter Try.func25, Try.ntmps25
  go_wp2_with fail
  go_at_call 47
  refine (sgok_any N lo hi n _ L _ hL (HR.out.below (B := w.heap.size) (by go_grown) (by omega)) (by simp; omega)).mono ?_
  rw [Hn.out.1]
  rintro e v1 ⟨rfl, hb1⟩
  have sz1 : w.heap.size + 2 ≤ v1.heap.size := by have hh := hb1.size; simp at hh; omega
  have st1 : Below w.heap.size w v1 := Below.trans (by go_grown) (hb1.mono (by simp <;> omega))
  have c1_0 : v1.cell? ⟨w.heap.size, 0, none⟩ = some (.int .i64 N) := by rw [(bcell hb1).1 _ _ (by simp <;> omega), old_box (by simp <;> omega)]; first | (rw [new_at (by simp)]; rfl) | simp
  have c1_1 : v1.cell? ⟨w.heap.size, 1, none⟩ = some (.slice ad n cp) := by rw [(bcell hb1).1 _ _ (by simp <;> omega), old_box (by simp <;> omega)]; first | (rw [new_at (by simp)]; rfl) | simp
  have B1 : Hid (Below w.heap.size w v1) := st1
  have R1_0 : Hid (Row 3 v1 (lo) (hi) (.slice ad n cp) n (flat L)) := HR.out.below st1 (by omega)
  have d1_0 : w.heap.size < v1.heap.size := by omega
  have e1_0 : w.heap.size ≠ v1.heap.size := by omega
  clear st1 HR hb1
  go_wp2_with fail
  go_at_call 48
  refine (node_any N _ _ _ d _ hN1 hN2).mono ?_
  rw [Hn.out.2]
  rintro e v2 ⟨rfl, hb2⟩
  have sz2 : v1.heap.size ≤ v2.heap.size := hb2.size
  have st2 : Below v1.heap.size v1 v2 := hb2
  have c2_0 : v2.cell? ⟨w.heap.size, 0, none⟩ = some (.int .i64 N) := by rw [(bcell st2).1 _ _ (by omega)]; exact c1_0
  have c2_1 : v2.cell? ⟨w.heap.size, 1, none⟩ = some (.slice ad n cp) := by rw [(bcell st2).1 _ _ (by omega)]; exact c1_1
  have B2 : Hid (Below w.heap.size w v2) := B1.out.trans (st2.mono (by omega))
  have R2_0 : Hid (Row 3 v2 (lo) (hi) (.slice ad n cp) n (flat L)) := R1_0.out.below st2 (by omega)
  have d2_0 : w.heap.size < v2.heap.size := by omega
  have e2_0 : w.heap.size ≠ v2.heap.size := by omega
  clear d1_0 e1_0 c1_0 c1_1 B1 st2 R1_0 hb2
  go_wp2_with fail
  go_ret
  exact ⟨_, rfl, Row.empty 1 _ _ _ _ _, B2.out⟩

set_option maxRecDepth 100000 in
set_option maxHeartbeats 4000000 in
theorem ssafe_yes (M : Nat) (lo hi n : Nat) (v : Value) (L : List Ed) (d : Nat) (w : World) (hL : L.length = n) (hr : Row 3 w lo hi v n (flat L)) (hh : hi ≤ w.heap.size) (hG : gok (M : Int) L = true) (hd : d < M) :
    Calls Try.prog 25 #[.agg #[.int .i64 (M : Int), v], .int .i64 (d : Int)] w (LoPost (safeK (fun x => dsT (M : Int) L x (d : Int)) M) w) := by
  have HG := Lib.hid hG
  have HL := Lib.hid hL
  have hN1 := (gok_parts hG).1
  have hN2 := (gok_parts hG).2.1
  have hnd : ndB (M : Int) (d : Int) = true := by unfold ndB; rw [inB_iff]; omega
  obtain ⟨ad, cp, rfl⟩ := hr.slice
  obtain ⟨i3, hi3, hz0, hz1, hz2⟩ := info_parts Try.info3
  have I := Lib.hid (And.intro hi3 (And.intro hz0 (And.intro hz1 hz2)))
  have HX0 := Lib.hid (Gx.start (N := (M : Int)) hr hh)
  obtain ⟨D, hD⟩ : ∃ D : Int → Int, D = fun x => dsT (M : Int) L x (d : Int) := ⟨_, rfl⟩
  have HDx : Hid (∀ x, D x = dsT (M : Int) L x (d : Int)) := fun x => by rw [hD]
  rw [← hD]
  clear hr hG hi3 hz0 hz1 hz2 hh hD
  go_enter Try.func25, Try.ntmps25
  go_wp2_with fail
  obtain ⟨v0, hv0⟩ : ∃ v0, v0 = w.alloc (.cells #[.int .i64 (M : Int), .slice ad n cp] 29) := ⟨_, rfl⟩
  rw [← hv0] at HX0 ⊢
  have hs0 : v0.heap.size = w.heap.size + 1 := by rw [hv0]; simp
  have HB0 : Hid (Below w.heap.size w v0) := HX0.out.below
  obtain ⟨v1, hv1⟩ : ∃ v1, v1 = v0.alloc (.cells #[] 3) := ⟨_, rfl⟩
  have hb1 : Below v0.heap.size v0 v1 := by rw [hv1]; exact (Below.refl _ _).alloc (Nat.le_refl _) _
  have HO1 : Hid (OwnI v0 v1 (.slice (some ⟨w.heap.size + 1, 0, none⟩) 0 0) 0 []) := by rw [← hs0, hv1]; exact Lib.hid (OwnI.lit0 v0)
  have HX1 := Lib.hid (HX0.out.grow hb1)
  have HS0 := Lib.hid hs0
  rw [← hv1]
  clear hv0 hv1 hb1 hs0
  have c10 := HX1.out.c0
  have c11 := HX1.out.c1
  go_at_call 47
  refine (sgok_any (M : Int) lo hi n _ L _ hL HX1.out.row HX1.out.hi).mono ?_
  rw [HG.out]
  rintro e v2 ⟨rfl, hb2⟩
  have HX2 := Lib.hid (HX1.out.grow hb2)
  have HO2 := Lib.hid (HO1.out.grow hb2)
  clear c10 c11 hb2 HX1 HO1
  have c10 := HX2.out.c0
  have c11 := HX2.out.c1
  go_wp2_with fail
  go_at_call 48
  refine (node_any (M : Int) _ _ _ (d : Int) _ hN1 hN2).mono ?_
  rw [hnd]
  rintro e v3 ⟨rfl, hb3⟩
  have HX3 := Lib.hid (HX2.out.grow hb3)
  have HO3 := Lib.hid (HO2.out.grow hb3)
  have hlt3 := HX3.out.lt
  have he3 : w.heap.size ≠ v3.heap.size := by omega
  clear c10 c11 hb3 HX2 HO2 hnd
  have c10 := HX3.out.c0
  have c11 := HX3.out.c1
  go_wp2_with fail
  obtain ⟨v4, hv4⟩ : ∃ v4, v4 = v3.alloc (.cells #[] 3) := ⟨_, rfl⟩
  have hb4 : Below v3.heap.size v3 v4 := by rw [hv4]; exact (Below.refl _ _).alloc (Nat.le_refl _) _
  have HD4 : Hid (OwnI v3 v4 (.slice (some ⟨v3.heap.size, 0, none⟩) 0 0) 0 (tabI 0 D)) := by rw [hv4]; exact Lib.hid (OwnI.lit0 v3)
  rw [← hv4]
  clear hv4 hb4 c10 c11
  go_loopw [6, 7] (fun v i wr => ∃ k : Nat, k ≤ M ∧ i = .int .i64 (k : Int) ∧ Hid (OwnI v3 wr v k (tabI k D))) (fun _ i _ => M - (intOf i).toNat)
  case atStart => exact ⟨0, Nat.zero_le _, rfl, HD4⟩
  case round =>
    clear HD4
    obtain ⟨k, hk, rfl, hR⟩ := hrel
    have HXr := Lib.hid (HX3.out.grow hR.out.below)
    have c10 := HXr.out.c0
    have c11 := HXr.out.c1
    obtain ⟨oa, oc, hov⟩ := own_slice hR.out.row
    subst hov
    have hszr := hR.out.below.size
    by_cases hlt : k < M
    · have q0 : (k : Int) < (M : Int) := by omega
      go_wp2_with fail
      go_at_call 39
      refine (sdist_yes M lo hi n _ L k _ HL.out HXr.out.row HXr.out.hi HG.out hlt).mono ?_
      rintro e w2 ⟨dv, rfl, hrd, hb2⟩
      obtain ⟨dg, dc, hdv, _, hd2, hdc⟩ := row_cells (by omega) hrd
      subst hdv
      have z0 : w2.cell? ⟨dg, d, none⟩ = some (.int .i64 (D (k : Int))) := by rw [HDx.out]; exact hdc d _ (tabI_at _ hd)
      have p1 : (0 : Int) ≤ (d : Int) := by omega
      have p2 : (d : Int) < (M : Int) := by omega
      have hR2 := Lib.hid (hR.out.grow hb2)
      have hsz2 := hR2.out.below.size
      have Hw := Lib.hid hR2.out.row
      obtain ⟨y, hy⟩ : ∃ y, y = D (k : Int) := ⟨_, rfl⟩
      rw [← hy] at z0
      have HY := Lib.hid hy
      clear hrd hdc hb2 hR c10 c11 hy
      go_wp2_with (at_builtin; refine wpList_append_lies _ rfl _ _ 33 rfl v3.heap.size 3 i3 (.int .i64 0) 1 8 Try.underlying33 I.out.1 I.out.2.1 I.out.2.2.1 I.out.2.2.2 rfl (by decide) _ k (ints (tabI k D)) rfl (Hw.out.alloc _) ⟨w2.heap.size, 0, none⟩ 1 1 [.int .i64 y] rfl rfl ?d0 (int_one _) (by decide) ?d1 ?d2 ?d3 _ rfl ?_)
      case d0 => exact fun a u ha => cell_one_new _ _ 3 rfl a u ha
      case d1 => unfold maxLen; omega
      case d2 => omega
      case d3 => simp; omega
      intro g4 cap4 w4 hown4 hgrow4 hat4 hlt4
      have HF : Hid (OwnI v3 w4 (.slice (some ⟨g4, 0, none⟩) (k + 1) cap4) (k + 1) (tabI (k + 1) D)) := by
        rw [tabI_succ, ← HY.out]
        exact (hR2.out.grow ((Below.refl _ _).alloc (Nat.le_refl _) _)).app hgrow4 hown4
      clear hown4 hgrow4 hat4 hlt4 hR2 Hw z0
      go_wp2_with fail
      go_roundw
      case rel => exact ⟨k + 1, by omega, by go_num, HF⟩
      case measure => simp [intOf]; omega
    · obtain rfl : k = M := by omega
      have hge : ¬ ((k : Int) < (k : Int)) := by omega
      obtain ⟨dg, dc, hdv, hdg1, hdg2, _⟩ := row_cells (by omega) (hR.out.toRow (by omega))
      cases hdv
      have HRd : Hid (Row 1 wr v3.heap.size wr.heap.size (.slice (some ⟨dg, 0, none⟩) k oc) k (tabI k D)) := hR.out.toRow (by omega)
      have HOr := Lib.hid (HO3.out.grow hR.out.below)
      have hlo := HO3.out.lt.2
      obtain ⟨hiD, hhiD⟩ : ∃ q, q = wr.heap.size := ⟨_, rfl⟩
      have hhi2 : hiD ≤ wr.heap.size := by omega
      rw [← hhiD] at HRd hdg2
      have HAP : Hid (∀ b, Value.ownBlock (.slice (some ⟨w.heap.size + 1, 0, none⟩) 0 0) = some b → ¬ (v3.heap.size ≤ b ∧ b < hiD)) := fun b hb => by
        have e : w.heap.size + 1 = b := by simpa [Value.ownBlock] using hb
        omega
      clear hR HXr hhiD hszr
      go_wp2_with fail
      go_loopw [5, 8, 9] (fun ov _ _ wr2 => ∃ m : Nat, m ≤ k ∧ hiD ≤ wr2.heap.size ∧ Hid (OwnI v0 wr2 ov m ((safeK D k).take m)) ∧ Hid (Row 1 wr2 v3.heap.size hiD (.slice (some ⟨dg, 0, none⟩) k oc) k (tabI k D)) ∧ Hid (∀ b, ov.ownBlock = some b → ¬ (v3.heap.size ≤ b ∧ b < hiD))) (fun ov _ _ _ => k - lenV ov)
      case atStart => exact ⟨0, Nat.zero_le _, hhi2, by rw [List.take_zero]; exact HOr, HRd, HAP⟩
      case round =>
        clear c10 c11 HOr HRd HAP hhi2
        obtain ⟨m, hm, hh2, hO, hD, hA⟩ := hrel
        have HXm := Lib.hid (HX0.out.grow hO.out.below)
        have c10 := HXm.out.c0
        have c11 := HXm.out.c1
        obtain ⟨ua, uc, huv⟩ := own_slice hO.out.row
        subst huv
        have hszm := hO.out.below.size
        by_cases hmk : m < k
        · have q1 : (m : Int) < (k : Int) := by omega
          go_wp2_with fail
          go_loopw [8, 9] (fun q x wr3 => ∃ (xk : Nat) (qq : Int), q = .int .i64 qq ∧ x = .int .i64 (xk : Int) ∧ xk ≤ k ∧ hiD ≤ wr3.heap.size ∧ Hid (BestS D ((safeK D k).take m) xk qq) ∧ Hid (OwnI v0 wr3 (.slice ua m uc) m ((safeK D k).take m)) ∧ Hid (Row 1 wr3 v3.heap.size hiD (.slice (some ⟨dg, 0, none⟩) k oc) k (tabI k D))) (fun _ x _ => k - (intOf x).toNat)
          case atStart => exact ⟨0, -1, rfl, rfl, Nat.zero_le _, hh2, BestS.zero D _, hO, hD⟩
          case round =>
            clear c10 c11 hO hD HXm
            obtain ⟨xk, qq, rfl, rfl, hxk, hh3, hB, hO, hD⟩ := hrel
            have HXm := Lib.hid (HX0.out.grow hO.out.below)
            have c10 := HXm.out.c0
            have c11 := HXm.out.c1
            by_cases hxl : xk < k
            · have q2 : (xk : Int) < (k : Int) := by omega
              have q3 : (0 : Int) ≤ (xk : Int) := by omega
              have hrowO := Lib.hid (hO.out.toRow (by omega))
              obtain ⟨_, _, hvv, _, _, hcell⟩ := row_cells (by omega) hD.out
              cases hvv
              have z0 : wr.cell? ⟨dg, xk, none⟩ = some (.int .i64 (D (xk : Int))) := hcell xk _ (tabI_at D hxl)
              by_cases hin : (xk : Int) ∈ (safeK D k).take m
              · have hb : hasB ((safeK D k).take m) (xk : Int) = true := by unfold hasB; rw [List.any_eq_true]; exact ⟨_, hin, by simp⟩
                have HH : ∀ t, Calls Try.prog 55 #[.slice ua m uc, .int .i64 (xk : Int)] (wr.drewN t) fun e w' => e = .returned (.bool true) ∧ w' = wr.drewN t := fun t => (has_any ((safeK D k).take m) _ _ m _ (xk : Int) _ (hrowO.out.drewN t)).mono fun _ _ ⟨he, hw⟩ => ⟨by rw [he, hb], hw.symm⟩
                have HHh := Lib.hid HH
                have HB := Lib.hid (hB.out.pass hin)
                clear hcell hin HH hb
                go_wp2_with fail
                go_quiet (first | (go_at_call 55; refine Calls.quiet_of_same (HHh.out _)))
                go_wp2_with fail
                go_roundw
                case rel => exact ⟨xk + 1, qq, rfl, by go_num, by omega, hh3, HB, Lib.hid (hO.out.drewN _), Lib.hid (hD.out.drewN _)⟩
                case measure => simp [intOf]; omega
              · have hb : hasB ((safeK D k).take m) (xk : Int) = false := by
                  cases e : hasB ((safeK D k).take m) (xk : Int) with
                  | false => rfl
                  | true =>
                    unfold hasB at e
                    rw [List.any_eq_true] at e
                    obtain ⟨z, hz1, hz2⟩ := e
                    have hz3 : z = (xk : Int) := by simpa using hz2
                    rw [hz3] at hz1
                    exact absurd hz1 hin
                have HH : ∀ t, Calls Try.prog 55 #[.slice ua m uc, .int .i64 (xk : Int)] (wr.drewN t) fun e w' => e = .returned (.bool false) ∧ w' = wr.drewN t := fun t => (has_any ((safeK D k).take m) _ _ m _ (xk : Int) _ (hrowO.out.drewN t)).mono fun _ _ ⟨he, hw⟩ => ⟨by rw [he, hb], hw.symm⟩
                have HHh := Lib.hid HH
                clear HH hb
                by_cases hq : qq = -1
                · subst hq
                  have HB := Lib.hid (hB.out.first hin)
                  clear hcell hin
                  go_wp2_with fail
                  go_quiet (first | (go_at_call 55; refine Calls.quiet_of_same (HHh.out _)))
                  go_wp2_with fail
                  go_roundw
                  case rel => exact ⟨xk + 1, (xk : Int), rfl, by go_num, by omega, hh3, HB, Lib.hid (hO.out.drewN _), Lib.hid (hD.out.drewN _)⟩
                  case measure => simp [intOf]; omega
                · have hq0 := hB.out.ge hq
                  obtain ⟨qn, rfl⟩ : ∃ qn : Nat, qq = (qn : Int) := ⟨qq.toNat, by omega⟩
                  have q4 : (0 : Int) ≤ (qn : Int) := by omega
                  have q5 : (qn : Int) < (k : Int) := by omega
                  have q6 : ¬ ((qn : Int) < 0) := by omega
                  have q7 : decide ((qn : Int) < 0) = false := decide_eq_false q6
                  have z1 : wr.cell? ⟨dg, qn, none⟩ = some (.int .i64 (D (qn : Int))) := hcell qn _ (tabI_at D (by omega))
                  by_cases hlt : D (xk : Int) < D (qn : Int)
                  · have q8 : decide (D (xk : Int) < D (qn : Int)) = true := decide_eq_true hlt
                    have HB := Lib.hid (hB.out.take q4 hin hlt (by omega))
                    clear hcell hin hq hq0
                    go_wp2_with fail
                    go_quiet (first | (go_at_call 55; refine Calls.quiet_of_same (HHh.out _)))
                    go_wp2_with fail
                    go_roundw
                    case rel => exact ⟨xk + 1, (xk : Int), rfl, by go_num, by omega, hh3, HB, Lib.hid (hO.out.drewN _), Lib.hid (hD.out.drewN _)⟩
                    case measure => simp [intOf]; omega
                  · have q8 : decide (D (xk : Int) < D (qn : Int)) = false := decide_eq_false hlt
                    have HB := Lib.hid (hB.out.stay q4 hlt)
                    clear hcell hin hq hq0
                    go_wp2_with fail
                    go_quiet (first | (go_at_call 55; refine Calls.quiet_of_same (HHh.out _)))
                    go_wp2_with fail
                    go_roundw
                    case rel => exact ⟨xk + 1, (qn : Int), rfl, by go_num, by omega, hh3, HB, Lib.hid (hO.out.drewN _), Lib.hid (hD.out.drewN _)⟩
                    case measure => simp [intOf]; omega
            · obtain rfl : xk = k := by omega
              have hge2 : ¬ ((xk : Int) < (xk : Int)) := by omega
              have HT := Lib.hid (hB.out.done hmk (by omega))
              have Hw := Lib.hid hO.out.row
              have hszq := hO.out.below.size
              go_wp2_with (at_builtin; refine wpList_append_lies _ rfl _ _ 33 rfl v0.heap.size 3 i3 (.int .i64 0) 1 8 Try.underlying33 I.out.1 I.out.2.1 I.out.2.2.1 I.out.2.2.2 rfl (by decide) _ m (ints ((safeK D xk).take m)) rfl (Hw.out.alloc _) ⟨wr.heap.size, 0, none⟩ 1 1 [.int .i64 qq] rfl rfl ?d0 (int_one _) (by decide) ?d1 ?d2 ?d3 _ rfl ?_)
              case d1 => unfold maxLen; omega
              case d2 => omega
              case d3 => first | omega | (simp; omega)
              intro g4 cap4 w4 hown4 hgrow4 hat4 hlt4
              have HF : Hid (OwnI v0 w4 (.slice (some ⟨g4, 0, none⟩) (m + 1) cap4) (m + 1) ((safeK D xk).take (m + 1))) := by
                rw [HT.out]
                exact (hO.out.grow ((Below.refl _ _).alloc (Nat.le_refl _) _)).app hgrow4 hown4
              have HD4 : Hid (Row 1 w4 v3.heap.size hiD (.slice (some ⟨dg, 0, none⟩) xk oc) xk (tabI xk D)) := (hD.out.alloc (by omega) _).grown hgrow4 (by simp; omega) (fun b hb => hA.out b hb)
              have HA4 : Hid (∀ b, Value.ownBlock (.slice (some ⟨g4, 0, none⟩) (m + 1) cap4) = some b → ¬ (v3.heap.size ≤ b ∧ b < hiD)) := fun b hb => by
                have e : g4 = b := by simpa [Value.ownBlock] using hb
                subst e
                rcases hat4 with h | h
                · exact hA.out g4 h
                · have h' : wr.heap.size ≤ g4 := by rw [h]; omega
                  omega
              have hh4 : hiD ≤ w4.heap.size := by have := hgrow4.size; first | omega | (simp at this; omega)
              clear hown4 hgrow4 hat4 hlt4 hO hD hA Hw c10 c11 HXm hB
              go_wp2_with fail
              go_roundw
              case rel => exact ⟨m + 1, by omega, hh4, HF, HD4, HA4⟩
              case measure => simp [lenV]; omega
        · obtain rfl : m = k := by omega
          have hge2 : ¬ ((m : Int) < (m : Int)) := by omega
          have HE : Hid (OwnI v0 wr (.slice ua m uc) m (safeK D m)) := by
            have := hO.out
            rw [List.take_of_length_le (by rw [safeK_len]; exact Nat.le_refl _)] at this
            exact this
          go_wp2_with fail
          go_ret
          exact ⟨_, rfl, by rw [safeK_len]; exact (HE.out.toRow (by omega)).wide (by have := HS0.out; omega) (Nat.le_refl _), HB0.out.trans (HE.out.below.mono (by have := HS0.out; omega))⟩

theorem ssafe_any (N : Int) (lo hi n : Nat) (v : Value) (L : List Ed) (d : Int) (w : World) (hL : L.length = n) (hr : Row 3 w lo hi v n (flat L)) (hh : hi ≤ w.heap.size) :
    Calls Try.prog 25 #[.agg #[.int .i64 N, v], .int .i64 d] w (LoPost (safeL N L d) w) := by
  unfold safeL
  by_cases hG : gok N L = true
  · by_cases hd : ndB N d = true
    · rw [if_pos ⟨hG, hd⟩]
      have hN := gok_parts hG
      obtain ⟨M, rfl⟩ : ∃ M : Nat, N = (M : Int) := ⟨N.toNat, by omega⟩
      unfold ndB at hd
      rw [inB_iff] at hd
      obtain ⟨o, rfl⟩ : ∃ o : Nat, d = (o : Int) := ⟨d.toNat, by omega⟩
      rw [Int.toNat_natCast]
      exact ssafe_yes M lo hi n v L o w hL hr hh hG (by omega)
    · rw [if_neg (fun h => hd h.2)]
      exact ssafe_no1 N lo hi n v L d w hL hr hh ⟨hG, by simpa using hd⟩
  · rw [if_neg (fun h => hG h.1)]
    exact ssafe_no0 N lo hi n v L d w hL hr hh (by simpa using hG)

end Go.Proofs.Ytjenjdhoblcohaa
