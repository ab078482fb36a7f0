/- Estimate, by both. -/
import Derived.Test.YtophppnllkadoaaK2
import Derived.Test.YtophppnllkadoaaS2
import Derived.Test.YtophppnllkadoaaPa
import Derived.Test.YtophppnllkadoaaGo0
import Derived.Deep.AppendLies
import Derived.Deep.RegionLaw
import Derived.Maps.AppendAt
namespace Go.Proofs.Ytophppnllkadoaa
open Go.RowKit

theorem colV_bnd {r : Nat} {key : Int} (hr : r < 4) (hk : keyB key = true) : 0 ≤ colV (r : Int) key ∧ colV (r : Int) key < 16 := by
  rw [colV_yes (by rw [inB_true (by omega) (by omega), hk]; rfl)]
  exact ⟨Int.emod_nonneg _ (by decide), Int.emod_lt_of_pos _ (by decide)⟩
/-- The column of a key in row r, as a place. -/
def colN (r : Nat) (key : Int) : Nat := (colV (r : Int) key).toNat
theorem colN_eq {r : Nat} {key : Int} (hr : r < 4) (hk : keyB key = true) : colV (r : Int) key = (colN r key : Int) ∧ colN r key < 16 := by
  have := colV_bnd hr hk
  unfold colN
  omega
/-- The cell of a key in row r. -/
def celV (D : List (List Int)) (key : Int) (r : Nat) : Int := (D.getD r []).getD (colN r key) 0
theorem celV_at {D : List (List Int)} {key : Int} {r : Nat} {l : List Int} {x : Int} (hl : D[r]? = some l) (hx : l[colN r key]? = some x) : celV D key r = x := by
  have e : D.getD r [] = l := by rw [List.getD_eq_getElem?_getD, hl]; rfl
  unfold celV
  rw [e, List.getD_eq_getElem?_getD, hx]
  rfl
theorem SkP.cel {t : Int} {D : List (List Int)} (h : SkP t D) {key : Int} (hk : keyB key = true) {r : Nat} (hr : r < 4) : ∃ l, D[r]? = some l ∧ l.length = 16 ∧ l[colN r key]? = some (celV D key r) ∧ 0 ≤ celV D key r ∧ celV D key r ≤ t := by
  obtain ⟨l, hl⟩ : ∃ l, D[r]? = some l := ⟨_, List.getElem?_eq_getElem (by rw [h.1]; exact hr)⟩
  obtain ⟨h1, h2⟩ := h.2.2 r l hl
  obtain ⟨x, hx⟩ : ∃ x, l[colN r key]? = some x := ⟨_, List.getElem?_eq_getElem (by rw [h1]; exact (colN_eq hr hk).2)⟩
  have hb := h2.le hx
  have hc := celV_at hl hx
  exact ⟨l, hl, h1, by rw [hc]; exact hx, by rw [hc]; exact hb.1, by rw [hc]; exact hb.2⟩
/-- The least of the first k cells of a key, t at first. -/
def minK (t : Int) (D : List (List Int)) (key : Int) : Nat → Int
  | 0 => t
  | r + 1 => if celV D key r < minK t D key r then celV D key r else minK t D key r
theorem minK_bnd {t : Int} {D : List (List Int)} (h : SkP t D) {key : Int} (hk : keyB key = true) : ∀ r, r ≤ 4 → 0 ≤ minK t D key r ∧ minK t D key r ≤ t
  | 0, _ => ⟨h.tot, Int.le_refl _⟩
  | r + 1, hr => by
    have h1 := minK_bnd h hk r (by omega)
    obtain ⟨_, _, _, _, h2, h3⟩ := h.cel hk (show r < 4 by omega)
    unfold minK
    split
    · exact ⟨h2, h3⟩
    · exact h1
theorem minK_one {t : Int} {D : List (List Int)} (h : SkP t D) {key : Int} (hk : keyB key = true) : minK t D key 1 = celV D key 0 := by
  obtain ⟨_, _, _, _, _, h3⟩ := h.cel hk (show 0 < 4 by decide)
  have e : minK t D key 1 = if celV D key 0 < t then celV D key 0 else t := rfl
  rw [e]
  split <;> omega
/-- What Estimate answers. -/
noncomputable def estV (t : Int) (D : List (List Int)) (key : Int) : Int := if skB t D = true ∧ keyB key = true then minK t D key 4 else -1
theorem estV_no {t : Int} {D : List (List Int)} {key : Int} (h : skB t D = false ∨ keyB key = false) : estV t D key = -1 := by
  unfold estV
  rw [if_neg]
  rintro ⟨h1, h2⟩
  rcases h with h | h
  · rw [h] at h1; simp at h1
  · rw [h] at h2; simp at h2
theorem estV_yes {t : Int} {D : List (List Int)} {key : Int} (h1 : skB t D = true) (h2 : keyB key = true) : estV t D key = minK t D key 4 := by unfold estV; rw [if_pos ⟨h1, h2⟩]
/-- The cells of a key in the first k rows. -/
def celsK (D : List (List Int)) (key : Int) (k : Nat) : List Int := (List.range k).map (celV D key)
theorem celsK_len (D : List (List Int)) (key : Int) (k : Nat) : (celsK D key k).length = k := by simp [celsK]
theorem celsK_snoc (D : List (List Int)) (key : Int) (k : Nat) : celsK D key (k + 1) = celsK D key k ++ [celV D key k] := by simp [celsK, List.range_succ]
theorem celsK_at {D : List (List Int)} {key : Int} {k i : Nat} (h : i < k) : (celsK D key k)[i]? = some (celV D key i) := by unfold celsK; rw [List.getElem?_map, List.getElem?_range h]; rfl

set_option maxRecDepth 100000 in
set_option maxHeartbeats 4000000 in
theorem sest_any (lo hi n : Nat) (v : Value) (t : Int) (D : List (List Int)) (w : World) (hr : KRow w lo hi v n D) (hh : hi ≤ w.heap.size) (ht : I64 t) (key : Int) : Calls Try.prog 21 #[.agg #[v, .int .i64 t], .int .i64 key] w fun e w' => e = .returned (.int .i64 (estV t D key)) ∧ Below w.heap.size w w' := by
  obtain ⟨ad, cp, rfl⟩ := hr.slice
  have HD := Lib.hid hr.2
  have HR := Lib.hid hr
  have HT := Lib.hid ht
  clear hr ht
  cases hs : skB t D with
  | false =>
    have Hno : Hid (estV t D key = -1) := estV_no (.inl hs)
    go_enter Try.func21, Try.ntmps21
    go_wp2_with fail
    go_at_call 31
    refine (sskok_any lo hi n _ t D _ (HR.out.below (B := w.heap.size) (by go_grown) hh) (by simp; omega) HT.out).mono ?_
    rw [hs]
    rintro e v11 ⟨rfl, hb11⟩
    have sz11 : w.heap.size + 1 ≤ v11.heap.size := by have hh := hb11.size; simp at hh; omega
    have st11 : Below w.heap.size w v11 := Below.trans (by go_grown) (hb11.mono (by simp))
    have c11_0 : v11.cell? ⟨w.heap.size, 0, none⟩ = some (.slice ad n cp) := by rw [(bcell hb11).1 _ _ (by simp)]; first | (rw [new_at (by simp)]; rfl) | simp
    have c11_1 : v11.cell? ⟨w.heap.size, 1, none⟩ = some (.int .i64 t) := by rw [(bcell hb11).1 _ _ (by simp)]; first | (rw [new_at (by simp)]; rfl) | simp
    have B11 : Hid (Below w.heap.size w v11) := st11
    have R11_0 : Hid (KRow v11 (lo) (hi) (.slice ad n cp) n D) := HR.out.below st11 (by omega)
    have d11_0 : w.heap.size < v11.heap.size := by omega
    have e11_0 : w.heap.size ≠ v11.heap.size := by omega
    clear st11 HR hb11
    go_wp2_with fail
    go_ret
    exact ⟨by rw [Hno.out]; rfl, B11.out⟩
  | true =>
  cases hk : keyB key with
  | false =>
    have Hno : Hid (estV t D key = -1) := estV_no (.inr hk)
    go_enter Try.func21, Try.ntmps21
    go_wp2_with fail
    go_at_call 31
    refine (sskok_any lo hi n _ t D _ (HR.out.below (B := w.heap.size) (by go_grown) hh) (by simp; omega) HT.out).mono ?_
    rw [hs]
    rintro e v11 ⟨rfl, hb11⟩
    have sz11 : w.heap.size + 1 ≤ v11.heap.size := by have hh := hb11.size; simp at hh; omega
    have st11 : Below w.heap.size w v11 := Below.trans (by go_grown) (hb11.mono (by simp))
    have c11_0 : v11.cell? ⟨w.heap.size, 0, none⟩ = some (.slice ad n cp) := by rw [(bcell hb11).1 _ _ (by simp)]; first | (rw [new_at (by simp)]; rfl) | simp
    have c11_1 : v11.cell? ⟨w.heap.size, 1, none⟩ = some (.int .i64 t) := by rw [(bcell hb11).1 _ _ (by simp)]; first | (rw [new_at (by simp)]; rfl) | simp
    have B11 : Hid (Below w.heap.size w v11) := st11
    have R11_0 : Hid (KRow v11 (lo) (hi) (.slice ad n cp) n D) := HR.out.below st11 (by omega)
    have d11_0 : w.heap.size < v11.heap.size := by omega
    have e11_0 : w.heap.size ≠ v11.heap.size := by omega
    clear st11 HR hb11
    go_wp2_with fail
    go_at_call 60
    refine (key_any key _).mono ?_
    rw [hk]
    rintro e w' ⟨rfl, rfl⟩
    go_wp2_with fail
    go_ret
    exact ⟨by rw [Hno.out]; rfl, B11.out⟩
  | true =>
  have hsk := skB_iff.1 hs
  have HSK := Lib.hid hsk
  have Hyes : Hid (estV t D key = minK t D key 4) := estV_yes hs hk
  obtain rfl : n = 4 := by rw [← HD.out]; exact hsk.1
  clear hsk
  go_enter Try.func21, Try.ntmps21
  go_wp2_with fail
  go_at_call 31
  refine (sskok_any lo hi 4 _ t D _ (HR.out.below (B := w.heap.size) (by go_grown) hh) (by simp; omega) HT.out).mono ?_
  rw [hs]
  rintro e v11 ⟨rfl, hb11⟩
  have sz11 : w.heap.size + 1 ≤ v11.heap.size := by have hh := hb11.size; simp at hh; omega
  have st11 : Below w.heap.size w v11 := Below.trans (by go_grown) (hb11.mono (by simp))
  have c11_0 : v11.cell? ⟨w.heap.size, 0, none⟩ = some (.slice ad 4 cp) := by rw [(bcell hb11).1 _ _ (by simp)]; first | (rw [new_at (by simp)]; rfl) | simp
  have c11_1 : v11.cell? ⟨w.heap.size, 1, none⟩ = some (.int .i64 t) := by rw [(bcell hb11).1 _ _ (by simp)]; first | (rw [new_at (by simp)]; rfl) | simp
  have B11 : Hid (Below w.heap.size w v11) := st11
  have R11_0 : Hid (KRow v11 (lo) (hi) (.slice ad 4 cp) 4 D) := HR.out.below st11 (by omega)
  have d11_0 : w.heap.size < v11.heap.size := by omega
  have e11_0 : w.heap.size ≠ v11.heap.size := by omega
  clear st11 HR hb11
  go_wp2_with fail
  go_at_call 60
  refine (key_any key _).mono ?_
  rw [hk]
  rintro e w' ⟨rfl, rfl⟩
  have HC0 := Lib.hid c11_0
  have hmk0 := minK_bnd HSK.out hk 0 (by decide)
  go_wp2_with fail
  go_loopw [5, 6] (fun s i wr => ∃ k : Nat, k ≤ 4 ∧ i = .int .i64 (k : Int) ∧ s = .int .i64 (minK t D key k) ∧ Hid (Below v11.heap.size v11 wr)) (fun _ i _ => 4 - (intOf i).toNat)
  case atStart => exact ⟨0, Nat.zero_le _, rfl, rfl, Below.refl _ _⟩
  case round =>
    obtain ⟨wo, rfl⟩ : ∃ x, x = wr := ⟨_, rfl⟩
    obtain ⟨k, hkk, rfl, rfl, hB⟩ := hrel
    have hsz := hB.out.size
    have HBo : Hid (Below w.heap.size w wo) := B11.out.trans (hB.out.mono (by omega))
    by_cases hlt : k < 4
    case neg =>
      obtain rfl : k = 4 := by omega
      go_wp2
      go_ret
      exact ⟨by rw [Hyes.out]; rfl, HBo.out⟩
    case pos =>
    obtain ⟨l, hl, hl16, hcl, hv0, hv1⟩ := HSK.out.cel hk hlt
    obtain ⟨hce, hcb⟩ := colN_eq hlt hk
    have RO : Hid (KRow wo lo hi (.slice ad 4 cp) 4 D) := R11_0.out.below hB.out (by omega)
    have k0 : wo.cell? ⟨w.heap.size, 0, none⟩ = some (.slice ad 4 cp) := by rw [hB.out.cell (p := ⟨w.heap.size, 0, none⟩) (by show w.heap.size < _; omega)]; exact HC0.out
    obtain ⟨G, x, y, rfl, _, hG, d1, hrow⟩ := RO.out.cell hl
    rw [hl16] at d1 hrow
    obtain ⟨g, rfl, _, hg, e0⟩ := row1_cell hrow hcl
    obtain ⟨cl, hcl9⟩ : ∃ cl, cl = colN k key := ⟨_, rfl⟩
    rw [← hcl9] at hce hcb e0
    have HCE := Lib.hid hce
    obtain ⟨z, hz⟩ : ∃ z, z = celV D key k := ⟨_, rfl⟩
    have HZ := Lib.hid hz
    rw [← hz] at e0 hv0 hv1
    have hmb := minK_bnd HSK.out hk k hkk
    have hms : Hid (minK t D key (k + 1) = if z < minK t D key k then z else minK t D key k) := by show (if _ then _ else _) = _; rw [HZ.out]
    obtain ⟨mk, hmk⟩ : ∃ mk, mk = minK t D key k := ⟨_, rfl⟩
    rw [← hmk] at hms hmb ⊢
    have q0 : (0 : Int) ≤ (k : Int) := by omega
    have q1 : (k : Int) < 4 := by omega
    have q2 : (0 : Int) ≤ (cl : Int) := by omega
    have q3 : (cl : Int) < 16 := by omega
    have gw : g < wo.heap.size := by omega
    have Gw : G < wo.heap.size := by omega
    have ww : w.heap.size < wo.heap.size := by omega
    clear hl hl16 hcl hce hcl9 hz hmk hrow
    go_wp2_with fail
    refine wp_region_held_drew (S := (fun w' => w'.cell? ⟨w.heap.size, 0, none⟩ = some (.slice (some ⟨G, 0, none⟩) 4 cp) ∧ w'.cell? ⟨G, k, none⟩ = some (.slice (some ⟨g, 0, none⟩) 16 y) ∧ w'.cell? ⟨g, cl, none⟩ = some (.int .i64 z) ∧ wo.heap.size ≤ w'.heap.size ∧ Below wo.heap.size wo w')) (by kernel_rfl) ?_ (fun hHeld => ?_)
    · (first | assumption | exact rr3_start k0 d1 e0 | exact rr3_drew (by assumption) | exact rr3_keep (by omega) (by omega) (by omega) (by assumption) (by assumption) | fail)
    refine step_read 0 22 rfl rfl (by kernel_rfl) (by kernel_rfl) (by kernel_rfl) (fun _ _ _ h => h) (by rfl) (v := ?_) (fun w hSw => ?_) (by assumption) ?_; rotate_left; (focus ((try dsimp only at hSw); go_simp; first | done | exact rfl)); simp only [List.set]
    refine step_read 1 23 rfl rfl (by kernel_rfl) (by kernel_rfl) (by kernel_rfl) (fun _ _ _ h => h) (by rfl) (v := ?_) (fun w hSw => ?_) (by assumption) ?_; rotate_left; (focus ((try dsimp only at hSw); go_simp; first | done | exact rfl)); simp only [List.set]
    refine step_read 2 24 rfl rfl (by kernel_rfl) (by kernel_rfl) (by kernel_rfl) (fun _ _ _ h => h) (by rfl) (v := ?_) (fun w hSw => ?_) (by assumption) ?_; rotate_left; (focus ((try dsimp only at hSw); go_simp; first | done | exact rfl)); simp only [List.set]
    refine step_read 3 25 rfl rfl (by kernel_rfl) (by kernel_rfl) (by kernel_rfl) (fun _ _ _ h => h) (by rfl) (v := ?_) (fun w hSw => ?_) (by assumption) ?_; rotate_left; (focus ((try dsimp only at hSw); go_simp; first | done | exact rfl)); simp only [List.set]
    refine step_read 4 26 rfl rfl (by kernel_rfl) (by kernel_rfl) (by kernel_rfl) (fun _ _ _ h => h) (by rfl) (v := ?_) (fun w hSw => ?_) (by assumption) ?_; rotate_left; (focus ((try dsimp only at hSw); go_simp; first | done | exact rfl)); simp only [List.set]
    refine step_read 5 27 rfl rfl (by kernel_rfl) (by kernel_rfl) (by kernel_rfl) (fun _ _ _ h => h) (by rfl) (v := ?_) (fun w hSw => ?_) (by assumption) ?_; rotate_left; (focus ((try dsimp only at hSw); go_simp; first | done | exact rfl)); simp only [List.set]
    refine step_read 6 28 rfl rfl (by kernel_rfl) (by kernel_rfl) (by kernel_rfl) (fun _ _ _ h => h) (by rfl) (v := ?_) (fun w hSw => ?_) (by assumption) ?_; rotate_left; (focus ((try dsimp only at hSw); go_simp; first | done | exact rfl)); simp only [List.set]
    (refine wpAnyH_ready (rs := [7]) (by kernel_rfl) (by simp) ?_; refine AllReadyH.cons rfl (fun K hK => ?_) AllReadyH.nil; go_simp; (go_at_call 28; refine (scol_any _ _ _).mono ?_; rw [HCE.out]; rintro e w2 ⟨rfl, rfl⟩); refine hK.out _ _ ?_ (fun hHeld => ?_); (focus ((first | assumption | exact rr3_start k0 d1 e0 | exact rr3_drew (by assumption) | exact rr3_keep (by omega) (by omega) (by omega) (by assumption) (by assumption) | fail))); clear hK K)
    refine step_read 8 30 rfl rfl (by kernel_rfl) (by kernel_rfl) (by kernel_rfl) (fun _ _ _ h => h) (by rfl) (v := ?_) (fun w hSw => ?_) (by assumption) ?_; rotate_left; (focus ((try dsimp only at hSw); go_simp; first | done | exact rfl)); simp only [List.set]
    refine step_read 9 31 rfl rfl (by kernel_rfl) (by kernel_rfl) (by kernel_rfl) (fun _ _ _ h => h) (by rfl) (v := ?_) (fun w hSw => ?_) (by assumption) ?_; rotate_left; (focus ((try dsimp only at hSw); go_simp; first | done | exact rfl)); simp only [List.set]
    refine step_read 10 7 rfl rfl (by kernel_rfl) (by kernel_rfl) (by kernel_rfl) (fun _ _ _ h => h) (by rfl) (v := ?_) (fun w hSw => ?_) (by assumption) ?_; rotate_left; (focus ((try dsimp only at hSw); go_simp; first | done | exact rfl)); simp only [List.set]
    refine wpAnyH_done (by kernel_rfl) ?_ _
    have HBn : Hid (Below v11.heap.size v11 _) := hB.out.trans ((rr3_out (by assumption)).2.mono (by omega))
    by_cases hlt2 : z < mk
    · have hd : decide (z < mk) = true := decide_eq_true hlt2
      have hm2 : Hid (minK t D key (k + 1) = z) := by show _ = _; rw [hms.out, if_pos hlt2]
      go_wp2_with fail
      go_roundw
      case rel => exact ⟨k + 1, by omega, by go_num, by rw [hm2.out], HBn⟩
      case measure => simp [intOf]; omega
    · have hd : decide (z < mk) = false := decide_eq_false hlt2
      have hm2 : Hid (minK t D key (k + 1) = mk) := by show _ = _; rw [hms.out, if_neg hlt2]
      go_wp2_with fail
      go_roundw
      case rel => exact ⟨k + 1, by omega, by go_num, by rw [hm2.out], HBn⟩
      case measure => simp [intOf]; omega

theorem Try.info3q : (Try.prog.info? 3).map (fun i => (i.zero, i.size, i.bytes)) = some (some (.int .i64 0), 1, 8) := by kernel_rfl
theorem ints_set1 (Z : List Int) (j : Nat) (z : Int) : ints (Z.set j z) = (ints Z).set j (.int .i64 z) := by simp [ints]
set_option maxRecDepth 100000 in
set_option maxHeartbeats 4000000 in
theorem cells_any (lo hi cp : Nat) (ad : Option Addr) (t : Int) (D : List (List Int)) (w : World) (hr : KRow w lo hi (.slice ad 4 cp) 4 D) (hh : hi ≤ w.heap.size) (key : Int) (hs : SkP t D) (hk : keyB key = true) :
    Calls Try.prog 59 #[.agg #[.slice ad 4 cp, .int .i64 t], .int .i64 key] w fun e w' => ∃ rv, e = .returned rv ∧ Row 1 w' w.heap.size w'.heap.size rv 4 (celsK D key 4) ∧ Below w.heap.size w w' := by
  have HR := Lib.hid hr
  have HS := Lib.hid hs
  clear hr hs
  obtain ⟨iI, hi0, hz0, hz1, hz2⟩ := info_parts Try.info3q
  have I := Lib.hid (And.intro hi0 (And.intro hz0 (And.intro hz1 hz2)))
  clear hi0 hz0 hz1 hz2
  go_enter Try.func59, Try.ntmps59
  go_wp2_with fail
  obtain ⟨q11, hq11⟩ : ∃ q, q = (w.alloc (.cells #[.slice ad 4 cp, .int .i64 t] 28)) := ⟨_, rfl⟩
  have hb11 : Below w.heap.size w q11 := by rw [hq11]; go_grown
  have sz11 : w.heap.size + 1 ≤ q11.heap.size := by rw [hq11]; simp
  have c11_0 : q11.cell? ⟨w.heap.size, 0, none⟩ = some (.slice ad 4 cp) := by rw [hq11, new_at (by simp)]; rfl
  have c11_1 : q11.cell? ⟨w.heap.size, 1, none⟩ = some (.int .i64 t) := by rw [hq11, new_at (by simp)]; rfl
  have B11 : Hid (Below w.heap.size w q11) := Lib.hid hb11
  rw [← hq11]
  have d11_0 : w.heap.size < q11.heap.size := by omega
  have e11_0 : w.heap.size ≠ q11.heap.size := by omega
  clear hq11 hb11
  have HC0 := Lib.hid c11_0
  have RQ : Hid (KRow q11 lo hi (.slice ad 4 cp) 4 D) := HR.out.below B11.out hh
  go_loopw [5, 7] (fun s i wr => ∃ (k : Nat) (ka : Option Addr) (kc : Nat), k ≤ 4 ∧ i = .int .i64 (k : Int) ∧ s = .slice ka k kc ∧ Hid (OwnR 3 1 q11 wr (.slice ka k kc) k (celsK D key k))) (fun _ i _ => 4 - (intOf i).toNat)
  case atStart => exact ⟨0, none, 0, Nat.zero_le _, rfl, rfl, OwnR.nil 3 1 q11⟩
  case round =>
    obtain ⟨wo, rfl⟩ : ∃ x, x = wr := ⟨_, rfl⟩
    obtain ⟨k, ka, kc, hkk, rfl, rfl, hK⟩ := hrel
    have hsz := hK.out.below.size
    have HBo : Hid (Below w.heap.size w wo) := B11.out.trans (hK.out.below.mono (by omega))
    by_cases hlt : k < 4
    case neg =>
      obtain rfl : k = 4 := by omega
      have HE : Hid (Row 1 wo w.heap.size wo.heap.size (.slice ka 4 kc) 4 (celsK D key 4)) := (hK.out.toRow (by decide)).wide (by omega) (Nat.le_refl _)
      go_wp2
      go_ret
      exact ⟨_, rfl, HE.out, HBo.out⟩
    case pos =>
    obtain ⟨l, hl, hl16, hcl, hv0, hv1⟩ := HS.out.cel hk hlt
    obtain ⟨hce, hcb⟩ := colN_eq hlt hk
    have RO : Hid (KRow wo lo hi (.slice ad 4 cp) 4 D) := RQ.out.below hK.out.below (by omega)
    have k0 : wo.cell? ⟨w.heap.size, 0, none⟩ = some (.slice ad 4 cp) := by rw [hK.out.below.cell (p := ⟨w.heap.size, 0, none⟩) (by show w.heap.size < _; omega)]; exact HC0.out
    obtain ⟨G, x, y, rfl, _, hG, d1, hrow⟩ := RO.out.cell hl
    rw [hl16] at d1 hrow
    obtain ⟨g, rfl, _, hg, e0⟩ := row1_cell hrow hcl
    obtain ⟨cl, hcl9⟩ : ∃ cl, cl = colN k key := ⟨_, rfl⟩
    rw [← hcl9] at hce hcb e0
    have HCE := Lib.hid hce
    obtain ⟨z, hz⟩ : ∃ z, z = celV D key k := ⟨_, rfl⟩
    rw [← hz] at e0
    have hsn : Hid (celsK D key (k + 1) = celsK D key k ++ [z]) := by show _ = _; rw [celsK_snoc, hz]
    have q0 : (0 : Int) ≤ (k : Int) := by omega
    have q1 : (k : Int) < 4 := by omega
    have q2 : (0 : Int) ≤ (cl : Int) := by omega
    have q3 : (cl : Int) < 16 := by omega
    have gw : g < wo.heap.size := by omega
    have Gw : G < wo.heap.size := by omega
    have ww : w.heap.size < wo.heap.size := by omega
    have hQw : q11.heap.size ≤ wo.heap.size := by omega
    clear hl hl16 hcl hce hcl9 hz hrow hv0 hv1
    go_wp2_with fail
    go_region_law (first | (refine step_append_lies _ rfl _ _ 41 rfl q11.heap.size 3 iI (.int .i64 0) 1 8 Try.underlying41 I.out.1 I.out.2.1 I.out.2.2.1 I.out.2.2.2 rfl (by decide) _ k (ints (celsK D key k)) rfl (hK.out.row.drew.alloc _) ⟨wo.heap.size, 0, none⟩ 1 1 (ints [z]) rfl rfl (fun j u hj => cells_new _ [z] 3 rfl j u hj) (ints_one _) (by decide) (by unfold maxLen; omega) (by omega) (by simp; omega) _ rfl ?_; intro g4 cap4 w4 hown4 hgrow4 hat4 hlt4; have HF : Hid (OwnR 3 1 q11 w4 (.slice (some ⟨g4, 0, none⟩) (k + 1) cap4) (k + 1) (celsK D key (k + 1))) := (by show OwnR _ _ _ _ _ _ _; rw [hsn.out]; exact ((hK.out.grow (Below.refl _ _).drew).grow ((Below.refl _ _).alloc (Nat.le_refl _) _)).app hgrow4 hown4); clear hown4 hgrow4 hat4 hlt4) | (go_simp; go_at_call 29; refine (icol_any _ _ _).mono ?_; rw [HCE.out]; rintro e w2 ⟨rfl, rfl⟩) | fail)
    all_goals
      go_wp2_with fail
      go_roundw
      case rel => exact ⟨k + 1, _, _, by omega, by go_num, rfl, HF⟩
      case measure => simp [intOf]; omega

theorem minK_step {t : Int} {D : List (List Int)} {key : Int} {k : Nat} : minK t D key (k + 1) = min (minK t D key k) (celV D key k) := by
  show (if _ then _ else _) = _
  rw [Int.min_def]
  split <;> split <;> omega
set_option maxRecDepth 100000 in
set_option maxHeartbeats 4000000 in
theorem min_any (lo hi c : Nat) (a : Option Addr) (t : Int) (D : List (List Int)) (key : Int) (w : World) (hr : Row 1 w lo hi (.slice a 4 c) 4 (celsK D key 4)) (h1 : minK t D key 1 = celV D key 0) :
    Calls Try.prog 58 #[.slice a 4 c] w fun e w' => e = .returned (.int .i64 (minK t D key 4)) ∧ w = w' := by
  obtain ⟨g, rfl, _, _, c0⟩ := row1_cell hr (celsK_at (D := D) (key := key) (show 0 < 4 by decide))
  have HR := Lib.hid hr
  have H1 := Lib.hid h1
  clear hr h1
  go_enter Try.func58, Try.ntmps58
  go_wp2_with fail
  go_loopw [3, 4] (fun s i wr => ∃ k : Nat, 1 ≤ k ∧ k ≤ 4 ∧ i = .int .i64 (k : Int) ∧ s = .int .i64 (minK t D key k) ∧ w = wr) (fun _ i _ => 4 - (intOf i).toNat)
  case atStart => exact ⟨1, Nat.le_refl _, by decide, rfl, by rw [H1.out], rfl⟩
  case round =>
    clear c0
    obtain ⟨k, hk1, hk, rfl, rfl, rfl⟩ := hrel
    by_cases hlt : k < 4
    case neg =>
      obtain rfl : k = 4 := by omega
      go_wp2
      go_ret
      exact ⟨rfl, rfl⟩
    case pos =>
    obtain ⟨g2, e2, _, _, c1⟩ := row1_cell HR.out (celsK_at (D := D) (key := key) hlt)
    obtain rfl : g = g2 := by simpa using e2
    have q0 : (0 : Int) ≤ (k : Int) := by omega
    have q1 : (k : Int) < 4 := by omega
    have hms : Hid (minK t D key (k + 1) = min (minK t D key k) (celV D key k)) := minK_step
    generalize minK t D key k = A1 at *
    generalize celV D key k = B1 at *
    by_cases hab : A1 ≤ B1
    · have hm : Hid (minK t D key (k + 1) = A1) := by show _ = _; rw [hms.out, Int.min_eq_left hab]
      have h3 : ¬ B1 < A1 := by omega
      have h4 : min A1 B1 = A1 := Int.min_eq_left hab
      clear e2
      go_wp2_with fail
      go_roundw
      case rel => exact ⟨k + 1, by omega, by omega, by go_num, by rw [hm.out], by first | rfl | trivial⟩
      case measure => simp [intOf]; omega
    · have hm : Hid (minK t D key (k + 1) = B1) := by show _ = _; rw [hms.out, Int.min_eq_right (by omega)]
      have h3 : B1 < A1 := by omega
      have h4 : min A1 B1 = B1 := Int.min_eq_right (by omega)
      clear e2
      go_wp2_with fail
      go_roundw
      case rel => exact ⟨k + 1, by omega, by omega, by go_num, by rw [hm.out], by first | rfl | trivial⟩
      case measure => simp [intOf]; omega

set_option maxRecDepth 100000 in
set_option maxHeartbeats 4000000 in
theorem iest_any (lo hi n : Nat) (v : Value) (t : Int) (D : List (List Int)) (w : World) (hr : KRow w lo hi v n D) (hh : hi ≤ w.heap.size) (ht : I64 t) (key : Int) : Calls Try.prog 20 #[.agg #[v, .int .i64 t], .int .i64 key] w fun e w' => e = .returned (.int .i64 (estV t D key)) ∧ Below w.heap.size w w' := by
  obtain ⟨ad, cp, rfl⟩ := hr.slice
  have HD := Lib.hid hr.2
  have HR := Lib.hid hr
  have HT := Lib.hid ht
  clear hr ht
  cases hs : skB t D with
  | false =>
    have Hno : Hid (estV t D key = -1) := estV_no (.inl hs)
    go_enter Try.func20, Try.ntmps20
    go_wp2_with fail
    go_at_call 33
    refine (iskok_any lo hi n _ t D _ (HR.out.below (B := w.heap.size) (by go_grown) hh) (by simp; omega) HT.out).mono ?_
    rw [hs]
    rintro e v11 ⟨rfl, hb11⟩
    have sz11 : w.heap.size + 1 ≤ v11.heap.size := by have hh := hb11.size; simp at hh; omega
    have st11 : Below w.heap.size w v11 := Below.trans (by go_grown) (hb11.mono (by simp))
    have c11_0 : v11.cell? ⟨w.heap.size, 0, none⟩ = some (.slice ad n cp) := by rw [(bcell hb11).1 _ _ (by simp)]; first | (rw [new_at (by simp)]; rfl) | simp
    have c11_1 : v11.cell? ⟨w.heap.size, 1, none⟩ = some (.int .i64 t) := by rw [(bcell hb11).1 _ _ (by simp)]; first | (rw [new_at (by simp)]; rfl) | simp
    have B11 : Hid (Below w.heap.size w v11) := st11
    have R11_0 : Hid (KRow v11 (lo) (hi) (.slice ad n cp) n D) := HR.out.below st11 (by omega)
    have d11_0 : w.heap.size < v11.heap.size := by omega
    have e11_0 : w.heap.size ≠ v11.heap.size := by omega
    clear st11 HR hb11
    go_wp2_with fail
    go_ret
    exact ⟨by rw [Hno.out]; rfl, B11.out⟩
  | true =>
  cases hk : keyB key with
  | false =>
    have Hno : Hid (estV t D key = -1) := estV_no (.inr hk)
    go_enter Try.func20, Try.ntmps20
    go_wp2_with fail
    go_at_call 33
    refine (iskok_any lo hi n _ t D _ (HR.out.below (B := w.heap.size) (by go_grown) hh) (by simp; omega) HT.out).mono ?_
    rw [hs]
    rintro e v11 ⟨rfl, hb11⟩
    have sz11 : w.heap.size + 1 ≤ v11.heap.size := by have hh := hb11.size; simp at hh; omega
    have st11 : Below w.heap.size w v11 := Below.trans (by go_grown) (hb11.mono (by simp))
    have c11_0 : v11.cell? ⟨w.heap.size, 0, none⟩ = some (.slice ad n cp) := by rw [(bcell hb11).1 _ _ (by simp)]; first | (rw [new_at (by simp)]; rfl) | simp
    have c11_1 : v11.cell? ⟨w.heap.size, 1, none⟩ = some (.int .i64 t) := by rw [(bcell hb11).1 _ _ (by simp)]; first | (rw [new_at (by simp)]; rfl) | simp
    have B11 : Hid (Below w.heap.size w v11) := st11
    have R11_0 : Hid (KRow v11 (lo) (hi) (.slice ad n cp) n D) := HR.out.below st11 (by omega)
    have d11_0 : w.heap.size < v11.heap.size := by omega
    have e11_0 : w.heap.size ≠ v11.heap.size := by omega
    clear st11 HR hb11
    go_wp2_with fail
    go_at_call 57
    refine (keyOk_any key _).mono ?_
    rw [hk]
    rintro e w' ⟨rfl, rfl⟩
    go_wp2_with fail
    go_ret
    exact ⟨by rw [Hno.out]; rfl, B11.out⟩
  | true =>
  have hsk := skB_iff.1 hs
  have HSK := Lib.hid hsk
  have Hyes : Hid (estV t D key = minK t D key 4) := estV_yes hs hk
  obtain rfl : n = 4 := by rw [← HD.out]; exact hsk.1
  clear hsk
  go_enter Try.func20, Try.ntmps20
  go_wp2_with fail
  go_at_call 33
  refine (iskok_any lo hi 4 _ t D _ (HR.out.below (B := w.heap.size) (by go_grown) hh) (by simp; omega) HT.out).mono ?_
  rw [hs]
  rintro e v11 ⟨rfl, hb11⟩
  have sz11 : w.heap.size + 1 ≤ v11.heap.size := by have hh := hb11.size; simp at hh; omega
  have st11 : Below w.heap.size w v11 := Below.trans (by go_grown) (hb11.mono (by simp))
  have c11_0 : v11.cell? ⟨w.heap.size, 0, none⟩ = some (.slice ad 4 cp) := by rw [(bcell hb11).1 _ _ (by simp)]; first | (rw [new_at (by simp)]; rfl) | simp
  have c11_1 : v11.cell? ⟨w.heap.size, 1, none⟩ = some (.int .i64 t) := by rw [(bcell hb11).1 _ _ (by simp)]; first | (rw [new_at (by simp)]; rfl) | simp
  have B11 : Hid (Below w.heap.size w v11) := st11
  have R11_0 : Hid (KRow v11 (lo) (hi) (.slice ad 4 cp) 4 D) := HR.out.below st11 (by omega)
  have d11_0 : w.heap.size < v11.heap.size := by omega
  have e11_0 : w.heap.size ≠ v11.heap.size := by omega
  clear st11 HR hb11
  go_wp2_with fail
  go_at_call 57
  refine (keyOk_any key _).mono ?_
  rw [hk]
  rintro e w' ⟨rfl, rfl⟩
  go_wp2_with fail
  go_at_call 59
  refine (cells_any lo hi cp ad t D _ R11_0.out (by omega) key HSK.out hk).mono ?_
  rintro e v12 ⟨rv, rfl, hrv, hb12⟩
  have sz12 : v11.heap.size ≤ v12.heap.size := hb12.size
  have st12 : Below v11.heap.size v11 v12 := hb12
  have c12_0 : v12.cell? ⟨w.heap.size, 0, none⟩ = some (.slice ad 4 cp) := by rw [(bcell st12).1 _ _ (by omega)]; exact c11_0
  have c12_1 : v12.cell? ⟨w.heap.size, 1, none⟩ = some (.int .i64 t) := by rw [(bcell st12).1 _ _ (by omega)]; exact c11_1
  have B12 : Hid (Below w.heap.size w v12) := B11.out.trans (st12.mono (by omega))
  have R12_0 : Hid (KRow v12 (lo) (hi) (.slice ad 4 cp) 4 D) := R11_0.out.below st12 (by omega)
  have d12_0 : w.heap.size < v12.heap.size := by omega
  have e12_0 : w.heap.size ≠ v12.heap.size := by omega
  clear d11_0 e11_0 c11_0 c11_1 B11 st12 R11_0 hb12
  obtain ⟨ra, rc, rfl⟩ := hrv.slice
  have HRV := Lib.hid hrv
  clear hrv
  go_wp2_with fail
  go_at_call 58
  refine (min_any _ _ rc ra t D key _ HRV.out (minK_one HSK.out hk)).mono ?_
  rintro e w' ⟨rfl, rfl⟩
  go_wp2_with fail
  go_ret
  exact ⟨by rw [Hyes.out]; rfl, B12.out⟩

end Go.Proofs.Ytophppnllkadoaa
