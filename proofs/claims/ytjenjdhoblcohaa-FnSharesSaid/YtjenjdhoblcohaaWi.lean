/- Distances: the program. -/
import Derived.Test.YtjenjdhoblcohaaOi
import Derived.Test.YtjenjdhoblcohaaMf
import Derived.Test.YtjenjdhoblcohaaW5
import Derived.Test.YtjenjdhoblcohaaW4
import Derived.Test.YtjenjdhoblcohaaW6
import Derived.Test.YtjenjdhoblcohaaWr
import Derived.Test.YtjenjdhoblcohaaW31
namespace Go.Proofs.Ytjenjdhoblcohaa
open Go.RowKit

/-- The distances behind k rounds and j edges more. -/
def accD (L : List Ed) (s : Int) (k j : Nat) : Int → Int := (L.take j).foldl relax (rounds L s k)
theorem accD_zero (L : List Ed) (s : Int) (k : Nat) : accD L s k 0 = rounds L s k := rfl
theorem accD_all (L : List Ed) (s : Int) (k : Nat) {n : Nat} (h : L.length = n) : accD L s k n = rounds L s (k + 1) := by unfold accD; rw [List.take_of_length_le (by omega)]; rfl
theorem accD_succ {L : List Ed} {j : Nat} {e : Ed} (s : Int) (k : Nat) (h : L[j]? = some e) : accD L s k (j + 1) = relax (accD L s k j) e := by unfold accD; rw [take_snoc3 h, List.foldl_append]; rfl
def BndD (d : Int → Int) : Prop := ∀ x, 0 ≤ d x ∧ d x ≤ 1000000
theorem BndD.relax {d : Int → Int} (h : BndD d) {e : Ed} (he : 0 ≤ e.2.2) : BndD (relax d e) := fun x => by
  unfold Go.Proofs.Ytjenjdhoblcohaa.relax
  split
  · rename_i hh
    show 0 ≤ (if x = e.2.1 then d e.1 + e.2.2 else d x) ∧ (if x = e.2.1 then d e.1 + e.2.2 else d x) ≤ 1000000
    have h1 := h x
    have h2 := h e.1
    have h3 := h e.2.1
    split <;> omega
  · exact h x
theorem foldl_bnd {N : Int} {L : List Ed} (hG : gok N L = true) : ∀ (M : List Ed) (d : Int → Int), (∀ e ∈ M, e ∈ L) → BndD d → BndD (M.foldl relax d)
  | [], _, _, h => h
  | e :: M, d, hM, h => foldl_bnd hG M (relax d e) (fun f hf => hM f (List.mem_cons_of_mem _ hf)) (h.relax (by have := gok_mem hG (hM e (List.mem_cons_self)); omega))
theorem rounds_bnd {N : Int} {L : List Ed} (hG : gok N L = true) (s : Int) : ∀ k, BndD (rounds L s k)
  | 0 => fun x => by
    show 0 ≤ (if x = s then 0 else Far) ∧ (if x = s then 0 else Far) ≤ 1000000
    unfold Far
    split <;> omega
  | k + 1 => foldl_bnd hG L _ (fun _ h => h) (rounds_bnd hG s k)
theorem accD_bnd {N : Int} {L : List Ed} (hG : gok N L = true) (s : Int) (k j : Nat) : BndD (accD L s k j) := foldl_bnd hG _ _ (fun _ h => List.mem_of_mem_take h) (rounds_bnd hG s k)
theorem relax_yes {d : Int → Int} {a b c : Int} (h1 : d a < 1000000) (h2 : d a + c < d b) : relax d (a, b, c) = fun x => if x = b then d a + c else d x := if_pos ⟨h1, h2⟩
theorem relax_no1 {d : Int → Int} {a b c : Int} (h1 : ¬ d a < 1000000) : relax d (a, b, c) = d := if_neg (fun h => h1 h.1)
theorem relax_no2 {d : Int → Int} {a b c : Int} (h2 : ¬ d a + c < d b) : relax d (a, b, c) = d := if_neg (fun h => h2 h.2)

set_option maxRecDepth 100000 in
set_option maxHeartbeats 4000000 in
theorem sdist_yes (M : Nat) (lo hi n : Nat) (v : Value) (L : List Ed) (s : Nat) (w : World) (hL : L.length = n) (hr : Row 3 w lo hi v n (flat L)) (hh : hi ≤ w.heap.size) (hG : gok (M : Int) L = true) (hs : s < M) :
    Calls Try.prog 39 #[.agg #[.int .i64 (M : Int), v], .int .i64 (s : Int)] w fun e w' => ∃ rv, e = .returned rv ∧ Row 1 w' w.heap.size w'.heap.size rv M (tabI M (rounds L (s : Int) M)) ∧ Below w.heap.size w w' := by
  have HR := Lib.hid hr
  have HG := Lib.hid hG
  have HL := Lib.hid hL
  have hN1 := (gok_parts hG).1
  have hN2 := (gok_parts hG).2.1
  have h60 : n ≤ 60 := by have := (gok_parts hG).2.2.1; omega
  have hnd : ndB (M : Int) (s : Int) = true := by unfold ndB; rw [inB_iff]; omega
  obtain ⟨ad, cp, rfl, _, hc⟩ := hr.opened
  have HC := Lib.hid hc
  obtain ⟨i3, hi, hz0, hz1, hz2⟩ := info_parts Try.info3
  have I := Lib.hid (And.intro hi (And.intro hz0 (And.intro hz1 hz2)))
  clear hr hc hi hz0 hz1 hz2
  go_enter Try.func39, Try.ntmps39
  go_wp2_with fail
  go_at_call 47
  refine (sgok_any (M : Int) lo hi n _ L _ hL (HR.out.below (B := w.heap.size) (by go_grown) (by omega)) (by simp; omega)).mono ?_
  rw [HG.out]
  rintro e v1 ⟨rfl, hb1⟩
  have sz1 : w.heap.size + 1 ≤ v1.heap.size := by have hh := hb1.size; simp at hh; omega
  have st1 : Below w.heap.size w v1 := Below.trans (by go_grown) (hb1.mono (by simp))
  have c1_0 : v1.cell? ⟨w.heap.size, 0, none⟩ = some (.int .i64 (M : Int)) := by rw [(bcell hb1).1 _ _ (by simp)]; first | (rw [new_at (by simp)]; rfl) | simp
  have c1_1 : v1.cell? ⟨w.heap.size, 1, none⟩ = some (.slice ad n cp) := by rw [(bcell hb1).1 _ _ (by simp)]; first | (rw [new_at (by simp)]; rfl) | simp
  have B1 : Hid (Below w.heap.size w v1) := st1
  have R1_0 : Hid (Row 3 v1 (lo) (hi) (.slice ad n cp) n (flat L)) := HR.out.below st1 (by omega)
  have d1_0 : w.heap.size < v1.heap.size := by omega
  have e1_0 : w.heap.size ≠ v1.heap.size := by omega
  clear st1 HR hb1
  go_wp2_with fail
  go_at_call 48
  refine (node_any (M : Int) _ _ _ (s : Int) _ hN1 hN2).mono ?_
  rw [hnd]
  rintro e v2 ⟨rfl, hb2⟩
  have sz2 : v1.heap.size ≤ v2.heap.size := hb2.size
  have st2 : Below v1.heap.size v1 v2 := hb2
  have c2_0 : v2.cell? ⟨w.heap.size, 0, none⟩ = some (.int .i64 (M : Int)) := by rw [(bcell st2).1 _ _ (by omega)]; exact c1_0
  have c2_1 : v2.cell? ⟨w.heap.size, 1, none⟩ = some (.slice ad n cp) := by rw [(bcell st2).1 _ _ (by omega)]; exact c1_1
  have B2 : Hid (Below w.heap.size w v2) := B1.out.trans (st2.mono (by omega))
  have R2_0 : Hid (Row 3 v2 (lo) (hi) (.slice ad n cp) n (flat L)) := R1_0.out.below st2 (by omega)
  have d2_0 : w.heap.size < v2.heap.size := by omega
  have e2_0 : w.heap.size ≠ v2.heap.size := by omega
  clear d1_0 e1_0 c1_0 c1_1 B1 st2 R1_0 hb2
  go_wp2_with fail
  have HB := B2
  have k0 : v2.cell? ⟨w.heap.size, 0, none⟩ = some (.int .i64 (M : Int)) := c2_0
  have k1 : v2.cell? ⟨w.heap.size, 1, none⟩ = some (.slice ad n cp) := c2_1
  have hwv : w.heap.size < v2.heap.size := by omega
  have HO := Lib.hid (OwnI.lit0 v2)
  clear hnd
  go_loopw [5, 6] (fun v i wr => ∃ k : Nat, k ≤ M ∧ i = .int .i64 (k : Int) ∧ Hid (OwnI v2 wr v k (tabI k (fun _ => 1000000)))) (fun _ i _ => M - (intOf i).toNat)
  case atStart => exact ⟨0, Nat.zero_le _, rfl, HO⟩
  case round =>
    obtain ⟨k, hk, rfl, hR⟩ := hrel
    have c0 : wr.cell? ⟨w.heap.size, 0, none⟩ = some (.int .i64 (M : Int)) := by rw [hR.out.below.cell (p := ⟨w.heap.size, 0, none⟩) hwv]; exact k0
    have hsz := hR.out.below.size
    obtain ⟨oa, oc, ho⟩ := own_slice hR.out.row
    subst ho
    by_cases hlt : k < M
    · have q0 : (k : Int) < (M : Int) := by omega
      have Hw := Lib.hid hR.out.row
      go_wp2_with (at_builtin; refine wpList_append_lies _ rfl _ _ 33 rfl v2.heap.size 3 i3 (.int .i64 0) 1 8 Try.underlying33 I.out.1 I.out.2.1 I.out.2.2.1 I.out.2.2.2 rfl (by decide) _ k (ints (tabI k (fun _ => 1000000))) rfl (Hw.out.alloc _) ⟨wr.heap.size, 0, none⟩ 1 1 [.int .i64 1000000] rfl rfl ?d0 (int_one _) (by decide) ?d1 ?d2 ?d3 _ rfl ?_)
      case d0 => exact fun j u hj => cell_one_new _ _ 3 rfl j u hj
      case d1 => unfold maxLen; omega
      case d2 => omega
      case d3 => simp; omega
      intro g4 cap4 w4 hown4 hgrow4 hat4 hlt4
      have HF : Hid (OwnI v2 w4 (.slice (some ⟨g4, 0, none⟩) (k + 1) cap4) (k + 1) (tabI (k + 1) (fun _ => 1000000))) := by show OwnI _ _ _ _ _; rw [tabI_succ]; exact (hR.out.grow ((Below.refl _ _).alloc (Nat.le_refl _) _)).app hgrow4 hown4
      clear hown4 hgrow4 hat4 hlt4 hR Hw
      go_wp2_with fail
      go_roundw
      case rel => exact ⟨k + 1, by omega, by go_num, HF⟩
      case measure => simp [intOf]; omega
    · obtain rfl : M = k := by omega
      obtain ⟨g, cap, hv⟩ := hR.out.form (by omega)
      cases hv
      have hge : ¬ ((M : Int) < (M : Int)) := by omega
      have q0 : (0 : Int) ≤ (s : Int) := by omega
      have q1 : (s : Int) < (M : Int) := by omega
      have fz : wr.frozen? ⟨g, s, none⟩ = false := hR.out.frz s
      have cz : wr.cell? ⟨g, s, none⟩ = some (.int .i64 1000000) := hR.out.at hs (tabI_at _ hs)
      have hgl := hR.out.lt
      have HS : Hid (OwnI v2 (wr.setCell ⟨g, s, none⟩ (.int .i64 0)) (.slice (some ⟨g, 0, none⟩) M oc) M (tabI M (rounds L (s : Int) 0))) := by
        have := hR.out.set s 0
        rw [tabI_set] at this
        exact this
      clear hR
      go_wp2_with fail
      obtain ⟨ws, hws⟩ : ∃ ws, ws = wr.setCell ⟨g, s, none⟩ (.int .i64 0) := ⟨_, rfl⟩
      rw [← hws] at HS ⊢
      have hgv := hgl.1
      clear hws hgl hlt hge fz cz c0 hsz
      go_loopw [7] (fun i wr => ∃ k : Nat, k ≤ M ∧ i = .int .i64 (k : Int) ∧ Hid (OwnI v2 wr (.slice (some ⟨g, 0, none⟩) M oc) M (tabI M (rounds L (s : Int) k)))) (fun i _ => M - (intOf i).toNat)
      case atStart => exact ⟨0, Nat.zero_le _, rfl, HS⟩
      case round =>
        obtain ⟨k, hk, rfl, hR⟩ := hrel
        have c0 : wr.cell? ⟨w.heap.size, 0, none⟩ = some (.int .i64 (M : Int)) := by rw [hR.out.below.cell (p := ⟨w.heap.size, 0, none⟩) hwv]; exact k0
        have hsz := hR.out.below.size
        by_cases hlt : k < M
        · have q0 : (k : Int) < (M : Int) := by omega
          have HS : Hid (OwnI v2 wr (.slice (some ⟨g, 0, none⟩) M oc) M (tabI M (accD L (s : Int) k 0))) := hR
          clear hR
          go_wp2_with fail
          obtain ⟨wo, rfl⟩ : ∃ wo : World, wo = wr := ⟨_, rfl⟩
          clear c0 hsz
          go_loopw [8] (fun i wr => ∃ j : Nat, j ≤ n ∧ i = .int .i64 (j : Int) ∧ Hid (OwnI v2 wr (.slice (some ⟨g, 0, none⟩) M oc) M (tabI M (accD L (s : Int) k j)))) (fun i _ => n - (intOf i).toNat)
          case atStart => exact ⟨0, Nat.zero_le _, rfl, HS⟩
          case round =>
            obtain ⟨j, hj, rfl, hR⟩ := hrel
            have c1 : wr.cell? ⟨w.heap.size, 1, none⟩ = some (.slice ad n cp) := by rw [hR.out.below.cell (p := ⟨w.heap.size, 1, none⟩) hwv]; exact k1
            have hsz := hR.out.below.size
            by_cases hlt2 : j < n
            · obtain ⟨ge, rfl, hge, hcell⟩ := HC.out (by omega)
              obtain ⟨r, hr⟩ : ∃ r, L[j]? = some r := ⟨L[j]'(by rw [HL.out]; exact hlt2), List.getElem?_eq_getElem _⟩
              have hm := gok_mem HG.out (List.mem_of_getElem? hr)
              have HA := Lib.hid (accD_succ (s : Int) k hr)
              obtain ⟨a, b, c⟩ := r
              obtain ⟨r0, r1, r2⟩ := flat_at L j _ hr
              obtain ⟨⟨ha0, ha1⟩, ⟨hb0, hb1⟩, hab, hc0, hc1⟩ := hm
              simp only at ha0 ha1 hb0 hb1 hab hc0 hc1
              obtain ⟨a, rfl⟩ : ∃ a' : Nat, a = (a' : Int) := ⟨a.toNat, by omega⟩
              obtain ⟨b, rfl⟩ : ∃ b' : Nat, b = (b' : Int) := ⟨b.toNat, by omega⟩
              have z0 : wr.cell? ⟨ge, j * 3, none⟩ = some (.int .i64 (a : Int)) := by rw [hR.out.below.cell (p := ⟨ge, j * 3, none⟩) (by show ge < _; omega), HB.out.cell (p := ⟨ge, j * 3, none⟩) (by show ge < _; omega)]; exact hcell _ _ r0
              have z1 : wr.cell? ⟨ge, j * 3 + 1, none⟩ = some (.int .i64 (b : Int)) := by rw [hR.out.below.cell (p := ⟨ge, j * 3 + 1, none⟩) (by show ge < _; omega), HB.out.cell (p := ⟨ge, j * 3 + 1, none⟩) (by show ge < _; omega)]; exact hcell _ _ r1
              have z2 : wr.cell? ⟨ge, j * 3 + 2, none⟩ = some (.int .i64 c) := by rw [hR.out.below.cell (p := ⟨ge, j * 3 + 2, none⟩) (by show ge < _; omega), HB.out.cell (p := ⟨ge, j * 3 + 2, none⟩) (by show ge < _; omega)]; exact hcell _ _ r2
              have hbd := accD_bnd HG.out (s : Int) k j
              obtain ⟨da, hda⟩ : ∃ z, z = accD L (s : Int) k j (a : Int) := ⟨_, rfl⟩
              obtain ⟨db, hdb⟩ : ∃ z, z = accD L (s : Int) k j (b : Int) := ⟨_, rfl⟩
              have hda1 := hbd (a : Int)
              have hdb1 := hbd (b : Int)
              rw [← hda] at hda1
              rw [← hdb] at hdb1
              have hgl := hR.out.lt.2
              have HRb := Lib.hid (hR.out.grow ((Below.refl _ _).alloc (Nat.le_refl _) (.cells #[.int .i64 ((a : Nat) : Int), .int .i64 ((b : Nat) : Int), .int .i64 c] 96)))
              have y0 : (wr.alloc (.cells #[.int .i64 ((a : Nat) : Int), .int .i64 ((b : Nat) : Int), .int .i64 c] 96)).cell? ⟨g, a, none⟩ = some (.int .i64 da) := by rw [hda]; exact HRb.out.at (by omega) (tabI_at _ (by omega))
              have y1 : (wr.alloc (.cells #[.int .i64 ((a : Nat) : Int), .int .i64 ((b : Nat) : Int), .int .i64 c] 96)).cell? ⟨g, b, none⟩ = some (.int .i64 db) := by rw [hdb]; exact HRb.out.at (by omega) (tabI_at _ (by omega))
              have y2 : (wr.alloc (.cells #[.int .i64 ((a : Nat) : Int), .int .i64 ((b : Nat) : Int), .int .i64 c] 96)).frozen? ⟨g, b, none⟩ = false := HRb.out.frz b
              have e1 : IntKind.i64.wrap (da + c) = da + c := IntWalk.i64_in _ (by omega)
              have Hda := Lib.hid hda
              have Hdb := Lib.hid hdb
              have Hab := Lib.hid hab
              have p0 : (j : Int) < (n : Int) := by omega
              have p1 : (0 : Int) ≤ (a : Int) := by omega
              have p2 : (0 : Int) ≤ (b : Int) := by omega
              clear hr r0 r1 r2 hcell hbd hda hdb hab hR
              by_cases h1 : da < 1000000
              · have d1 : decide (da < 1000000) = true := decide_eq_true h1
                by_cases h2 : da + c < db
                · have d2 : decide (da + c < db) = true := decide_eq_true h2
                  have HA2 : Hid (tabI M (accD L (s : Int) k (j + 1)) = (tabI M (accD L (s : Int) k j)).set b (da + c)) := by
                    show _ = _
                    rw [tabI_set, HA.out, relax_yes (by rw [← Hda.out]; exact h1) (by rw [← Hda.out, ← Hdb.out]; exact h2), ← Hda.out]
                  go_wp2_with fail
                  go_quiet (fail)
                  go_wp2_with fail
                  go_region
                  go_wp2_with fail
                  go_roundw
                  case rel => exact ⟨j + 1, by omega, by go_num, Lib.hid (by rw [HA2.out]; exact (HRb.out.drewN _).set b (da + c))⟩
                  case measure => simp [intOf]; omega
                · have d2 : decide (da + c < db) = false := decide_eq_false h2
                  have HE : Hid (OwnI v2 (wr.alloc (.cells #[.int .i64 ((a : Nat) : Int), .int .i64 ((b : Nat) : Int), .int .i64 c] 96)) (.slice (some ⟨g, 0, none⟩) M oc) M (tabI M (accD L (s : Int) k (j + 1)))) := by
                    show OwnI _ _ _ _ _
                    rw [HA.out, relax_no2 (by rw [← Hda.out, ← Hdb.out]; exact h2)]
                    exact HRb.out
                  clear HRb
                  go_wp2_with fail
                  go_quiet (fail)
                  go_wp2_with fail
                  go_roundw
                  case rel => exact ⟨j + 1, by omega, by go_num, Lib.hid (HE.out.drewN _)⟩
                  case measure => simp [intOf]; omega
              · have d1 : decide (da < 1000000) = false := decide_eq_false h1
                have HE : Hid (OwnI v2 (wr.alloc (.cells #[.int .i64 ((a : Nat) : Int), .int .i64 ((b : Nat) : Int), .int .i64 c] 96)) (.slice (some ⟨g, 0, none⟩) M oc) M (tabI M (accD L (s : Int) k (j + 1)))) := by
                  show OwnI _ _ _ _ _
                  rw [HA.out, relax_no1 (by rw [← Hda.out]; exact h1)]
                  exact HRb.out
                clear HRb
                go_wp2_with fail
                go_quiet (fail)
                go_wp2_with fail
                go_roundw
                case rel => exact ⟨j + 1, by omega, by go_num, Lib.hid (HE.out.drewN _)⟩
                case measure => simp [intOf]; omega
            · obtain rfl : n = j := by omega
              have hge : ¬ ((n : Int) < (n : Int)) := by omega
              have HE : Hid (OwnI v2 wr (.slice (some ⟨g, 0, none⟩) M oc) M (tabI M (rounds L (s : Int) (k + 1)))) := by show OwnI _ _ _ _ _; rw [← accD_all L (s : Int) k HL.out]; exact hR.out
              clear hR
              go_wp2_with fail
              go_roundw
              case rel => exact ⟨k + 1, by omega, by go_num, HE⟩
              case measure => simp [intOf]; omega
        · obtain rfl : M = k := by omega
          have hge : ¬ ((M : Int) < (M : Int)) := by omega
          have HE := hR
          clear hR
          go_wp2_with fail
          refine bodyPost_ret (v := .slice (some ⟨g, 0, none⟩) M oc) (by simp [results, Try.results39, go_sem]) rfl ⟨_, rfl, ?_, HB.out.trans (HE.out.below.mono (by omega))⟩
          exact (HE.out.toRow (by omega)).wide (by omega) (Nat.le_refl _)

theorem pcs_at : ∀ (P : List TV) {k : Nat} {t : TV}, P[k]? = some t → (pcs P)[k * 2]? = some (.int .i64 t.c) ∧ (pcs P)[k * 2 + 1]? = some (.slice (some ⟨t.g, 0, none⟩) t.ns.length t.cap)
  | [], _, _, h => by simp at h
  | p :: P, 0, t, h => by
    simp at h; subst h
    exact ⟨by simp [pcs, tv2], by simp [pcs, tv2]⟩
  | p :: P, k + 1, t, h => by
    have := pcs_at P (k := k) (t := t) (by simpa using h)
    have e : pcs (p :: P) = tv2 p ++ pcs P := rfl
    rw [e, List.getElem?_append_right (by simp [tv2]; omega), List.getElem?_append_right (by simp [tv2]; omega)]
    rw [show (k + 1) * 2 - (tv2 p).length = k * 2 by simp [tv2]; omega, show (k + 1) * 2 + 1 - (tv2 p).length = k * 2 + 1 by simp [tv2]; omega]
    exact this
/-- The table behind the trails P. -/
def tabP (P : List TV) : Int → Int := P.foldl (fun d t => fun x => if x = lastN t.key then t.c else d x) (fun _ => 1000000)
theorem tabP_snoc (P : List TV) (t : TV) : tabP (P ++ [t]) = fun x => if x = lastN t.key then t.c else tabP P x := by unfold tabP; rw [List.foldl_append]; rfl
theorem tabP_cases (P : List TV) (x : Int) : (∃ t ∈ P, lastN t.key = x ∧ tabP P x = t.c) ∨ ((∀ t ∈ P, lastN t.key ≠ x) ∧ tabP P x = 1000000) := by
  have H : ∀ (n : Nat) (P : List TV), P.length = n → (∃ t ∈ P, lastN t.key = x ∧ tabP P x = t.c) ∨ ((∀ t ∈ P, lastN t.key ≠ x) ∧ tabP P x = 1000000) := by
    intro n
    induction n with
    | zero =>
      intro P hP
      obtain rfl : P = [] := List.eq_nil_of_length_eq_zero hP
      exact .inr ⟨fun t ht => absurd ht (List.not_mem_nil), rfl⟩
    | succ n ih =>
      intro P hP
      obtain ⟨Q, t, rfl⟩ : ∃ Q t, P = Q ++ [t] := ⟨P.take n, P[n]'(by omega), by
        have h1 := List.take_add_one (l := P) (i := n)
        rw [List.take_of_length_le (by omega), List.getElem?_eq_getElem (by omega)] at h1
        exact h1⟩
      rw [tabP_snoc]
      by_cases e : x = lastN t.key
      · exact .inl ⟨t, by simp, e.symm, by simp [e]⟩
      · rcases ih Q (by simpa using hP) with ⟨u, hu, h1, h2⟩ | ⟨h1, h2⟩
        · exact .inl ⟨u, by simp [hu], h1, by simp [e, h2]⟩
        · refine .inr ⟨fun u hu => ?_, by simp [e, h2]⟩
          rcases List.mem_append.1 hu with hu | hu
          · exact h1 u hu
          · rw [List.mem_singleton] at hu; subst hu; exact fun h => e h.symm
  exact H _ P rfl
theorem tabP_dist {N : Int} {L : List Ed} {s : Int} {P : List TV} (hG : gok N L = true) (hs : 0 ≤ s ∧ s < N) (h : Found L s (P.map TV.key)) (x : Int) : tabP P x = dsT N L s x := by
  rcases tabP_cases P x with ⟨t, ht, h1, h2⟩ | ⟨h1, h2⟩
  · have := h.dis hG hs (List.mem_map.2 ⟨t, ht, rfl⟩)
    rw [h1] at this
    rw [h2, this]; rfl
  · rw [h2, h.far hG (x := x) (fun t ht => by
      obtain ⟨u, hu, rfl⟩ := List.mem_map.1 ht
      exact h1 u hu)]
    rfl
theorem grown_below {w w1 w2 : World} {r : Option Nat} (h : w.grownBy w1 r) (b : Below w1.heap.size w1 w2) : w.grownBy w2 r :=
  ⟨b.os.trans h.os, b.tape.trans h.tape, b.output.trans h.output, Nat.le_trans h.size b.size, fun k hk hne => (b.block k (Nat.lt_of_lt_of_le hk h.size)).trans (h.block k hk hne)⟩
theorem grown_set {w w1 : World} {g : Nat} (h : w.grownBy w1 (some g)) (j : Nat) (u : Value) : w.grownBy (w1.setCell ⟨g, j, none⟩ u) (some g) :=
  ⟨h.os, h.tape, h.output, by simpa [World.setCell] using h.size, fun k hk hne => (Below.heap_setCell _ _ _ _ (fun e => hne (by rw [e]))).trans (h.block k hk hne)⟩
theorem below_undrew {w w' : World} (h : Below w.drew.heap.size w.drew w') : Below w.heap.size w w' := ⟨h.os, h.tape, h.output, h.size, fun k hk => h.block k hk⟩
theorem grown_refl (w : World) (r : Option Nat) : w.grownBy w r := ⟨rfl, rfl, rfl, Nat.le_refl _, fun _ _ _ => rfl⟩
theorem grown_cell {w w1 : World} {g b o : Nat} (h : w.grownBy w1 (some g)) (hb : b < w.heap.size) (hne : b ≠ g) : w1.cell? ⟨b, o, none⟩ = w.cell? ⟨b, o, none⟩ := World.cell?_of_block (w := w) (a := ⟨b, o, none⟩) (h.block b hb (fun e => hne (Option.some.inj e)))
/-- What holds at the head of Distances' rounds. -/
structure DiR (v wT wr : World) (g M : Nat) (P : List TV) (k : Nat) : Prop where
  own : OwnI v wr (.slice (some ⟨g, 0, none⟩) M M) M (tabI M (tabP (P.take k)))
  gr : wT.grownBy wr (some g)
theorem DiR.put {v wT w6 : World} {g M q k : Nat} {P : List TV} {c : Int} (hS : tabI M (tabP (P.take (k + 1))) = (tabI M (tabP (P.take k))).set q c) (h1 : OwnI v w6 (.slice (some ⟨g, 0, none⟩) M M) M (tabI M (tabP (P.take k)))) (h2 : wT.grownBy w6 (some g)) : DiR v wT (w6.setCell ⟨g, q, none⟩ (.int .i64 c)) g M P (k + 1) :=
  ⟨by rw [hS]; exact h1.set q c, grown_set h2 q _⟩

set_option maxRecDepth 100000 in
set_option maxHeartbeats 2400000 in
theorem idist_yes (M : Nat) (lo hi n : Nat) (v : Value) (L : List Ed) (s : Nat) (w : World) (hL : L.length = n) (hr : Row 3 w lo hi v n (flat L)) (hh : hi ≤ w.heap.size) (hG : gok (M : Int) L = true) (hs : s < M) :
    Calls Try.prog 89 #[.agg #[.int .i64 (M : Int), v], .int .i64 (s : Int)] w fun e w' => ∃ rv, e = .returned rv ∧ Row 1 w' w.heap.size w'.heap.size rv M (tabI M (rounds L (s : Int) M)) ∧ Below w.heap.size w w' := by
  have HR := Lib.hid hr
  have HG := Lib.hid hG
  have HL := Lib.hid hL
  have hN1 := (gok_parts hG).1
  have hN2 := (gok_parts hG).2.1
  have hnd : ndB (M : Int) (s : Int) = true := by unfold ndB; rw [inB_iff]; omega
  obtain ⟨ad, cp, rfl⟩ := hr.slice
  clear hr
  go_enter Try.func89, Try.ntmps89
  go_wp2_with fail
  go_at_call 51
  refine (igok_any (M : Int) lo hi n _ L _ hL (HR.out.below (B := w.heap.size) (by go_grown) (by omega)) (by simp; omega)).mono ?_
  rw [HG.out]
  rintro e v1 ⟨rfl, hb1⟩
  have sz1 : w.heap.size + 1 ≤ v1.heap.size := by have hh := hb1.size; simp at hh; omega
  have st1 : Below w.heap.size w v1 := Below.trans (by go_grown) (hb1.mono (by simp))
  have c1_0 : v1.cell? ⟨w.heap.size, 0, none⟩ = some (.int .i64 (M : Int)) := by rw [(bcell hb1).1 _ _ (by simp)]; first | (rw [new_at (by simp)]; rfl) | simp
  have c1_1 : v1.cell? ⟨w.heap.size, 1, none⟩ = some (.slice ad n cp) := by rw [(bcell hb1).1 _ _ (by simp)]; first | (rw [new_at (by simp)]; rfl) | simp
  have B1 : Hid (Below w.heap.size w v1) := st1
  have R1_0 : Hid (Row 3 v1 (lo) (hi) (.slice ad n cp) n (flat L)) := HR.out.below st1 (by omega)
  have d1_0 : w.heap.size < v1.heap.size := by omega
  have e1_0 : w.heap.size ≠ v1.heap.size := by omega
  clear st1 HR hb1
  go_wp2_with fail
  go_at_call 52
  refine (hasNode_any (M : Int) _ _ _ (s : Int) _).mono ?_
  rw [hnd]
  rintro e v2 ⟨rfl, hb2⟩
  have sz2 : v1.heap.size ≤ v2.heap.size := hb2.size
  have st2 : Below v1.heap.size v1 v2 := hb2
  have c2_0 : v2.cell? ⟨w.heap.size, 0, none⟩ = some (.int .i64 (M : Int)) := by rw [(bcell st2).1 _ _ (by omega)]; exact c1_0
  have c2_1 : v2.cell? ⟨w.heap.size, 1, none⟩ = some (.slice ad n cp) := by rw [(bcell st2).1 _ _ (by omega)]; exact c1_1
  have B2 : Hid (Below w.heap.size w v2) := B1.out.trans (st2.mono (by omega))
  have R2_0 : Hid (Row 3 v2 (lo) (hi) (.slice ad n cp) n (flat L)) := R1_0.out.below st2 (by omega)
  have d2_0 : w.heap.size < v2.heap.size := by omega
  have e2_0 : w.heap.size ≠ v2.heap.size := by omega
  clear d1_0 e1_0 c1_0 c1_1 B1 st2 R1_0 hb2
  clear hnd
  go_wp2_with fail
  go_at_call 109
  refine (repeat_any M v2.heap.size 1 1000000 _ (by omega) (by omega) (by rw [newAt rfl]; rfl) (by simp)).mono ?_
  rintro e v3 ⟨g, rfl, hO⟩
  have hb3 := hO.below
  have sz3 : v2.heap.size + 1 ≤ v3.heap.size := by have hh := hb3.size; simp at hh; omega
  have st3 : Below v2.heap.size v2 v3 := Below.trans (by go_grown) (hb3.mono (by simp))
  have c3_0 : v3.cell? ⟨w.heap.size, 0, none⟩ = some (.int .i64 (M : Int)) := by rw [(bcell st3).1 _ _ (by omega)]; exact c2_0
  have c3_1 : v3.cell? ⟨w.heap.size, 1, none⟩ = some (.slice ad n cp) := by rw [(bcell st3).1 _ _ (by omega)]; exact c2_1
  have c3_2 : v3.cell? ⟨v2.heap.size, 0, none⟩ = some (.int .i64 1000000) := by rw [(bcell hb3).1 _ _ (by simp)]; first | (rw [new_at (by simp)]; rfl) | simp
  have B3 : Hid (Below w.heap.size w v3) := B2.out.trans (st3.mono (by omega))
  have R3_0 : Hid (Row 3 v3 (lo) (hi) (.slice ad n cp) n (flat L)) := R2_0.out.below st3 (by omega)
  have d3_0 : w.heap.size < v3.heap.size := by omega
  have e3_0 : w.heap.size ≠ v3.heap.size := by omega
  have d3_1 : v2.heap.size < v3.heap.size := by omega
  have e3_1 : v2.heap.size ≠ v3.heap.size := by omega
  clear d2_0 e2_0 c2_0 c2_1 B2 st3 R2_0 hb3
  have HO := Lib.hid hO
  clear hO
  go_wp2_with fail
  go_at_call 72
  refine (trails_any (M : Int) (s : Int) lo hi n _ L _ HG.out hL (R3_0.out) (by omega) (by omega)).mono ?_
  rintro e v4 ⟨P, vt, rfl, hF, hPl, hown, hN, hb4⟩
  have HF := Lib.hid hF
  have HN := Lib.hid hN
  obtain ⟨ta, tc, ht⟩ := own_slice hown
  subst ht
  have HT := Lib.hid hown
  obtain ⟨wB, hwB⟩ : ∃ wB, wB = (v2.alloc (.cells #[.int .i64 1000000] 3)) := ⟨_, rfl⟩
  have HO4 : Hid (OwnI wB v4 (.slice (some ⟨g, 0, none⟩) M M) M (tabI M (tabP []))) := by rw [hwB]; exact HO.out.grow hb4
  have hg3 := HO.out.lt.2
  have hgB : wB.heap.size ≤ g := by rw [hwB]; exact HO.out.lt.1
  have HB4 : Hid (Below w.heap.size w v4) := B3.out.trans (hb4.mono (by omega))
  have hwB2 : w.heap.size ≤ wB.heap.size := by rw [hwB]; simp; omega
  have hs4 := hb4.size
  have HD : Hid (DiR wB v4 v4 g M P 0) := ⟨HO4.out, grown_refl _ _⟩
  clear hwB hF hN hown HO HO4 hb4 c3_0 c3_1 c3_2 B3 R3_0 d3_0 e3_0 d3_1 e3_1
  go_wp2_with fail
  go_loopw [25] (fun i wr => ∃ k : Nat, k ≤ P.length ∧ i = .int .i64 (k : Int) ∧ Hid (DiR wB v4 wr g M P k)) (fun i _ => P.length - (intOf i).toNat)
  case atStart => exact ⟨0, Nat.zero_le _, rfl, HD⟩
  case round =>
    obtain ⟨k, hk, rfl, hR⟩ := hrel
    by_cases hlt : k < P.length
    · obtain ⟨t, htk⟩ : ∃ t, P[k]? = some t := ⟨P[k], List.getElem?_eq_getElem _⟩
      obtain ⟨hNt, hgt⟩ := HN.out t (List.mem_of_getElem? htk)
      obtain ⟨gt, tcap, hv, hb2, hlt2⟩ := HT.out.form (by omega)
      cases hv
      have hgne : gt ≠ g := by omega
      have hngt : t.g ≠ g := by omega
      obtain ⟨p0, p1⟩ := pcs_at P htk
      have z0 : wr.cell? ⟨gt, k * 2, none⟩ = some (.int .i64 t.c) := by rw [grown_cell hR.out.gr hlt2 hgne, HT.out.cellAt _ (by omega)]; exact p0
      have z1 : wr.cell? ⟨gt, k * 2 + 1, none⟩ = some (.slice (some ⟨t.g, 0, none⟩) t.ns.length t.cap) := by rw [grown_cell hR.out.gr hlt2 hgne, HT.out.cellAt _ (by omega)]; exact p1
      obtain ⟨l, hl⟩ : ∃ l, t.ns.length = l + 1 := ⟨t.ns.length - 1, by have := hNt.1; omega⟩
      obtain ⟨j0, j1, j2, ⟨j3, j4⟩, _⟩ := (HF.out.best t.key (List.mem_map.2 ⟨t, List.mem_of_getElem? htk, rfl⟩)).1.bounds HG.out ⟨by omega, by omega⟩
      obtain ⟨q, hq⟩ : ∃ q : Nat, lastN t.key = (q : Int) := ⟨(lastN t.key).toNat, by omega⟩
      have hqM : q < M := by omega
      have hz : wr.cell? ⟨t.g, l, none⟩ = some (.int .i64 (q : Int)) := by rw [grown_cell hR.out.gr hNt.2.2.1 hngt, ← hq]; exact hNt.2.2.2 l _ (last_at hl)
      rw [hl] at z1
      have htake : Hid (P.take (k + 1) = P.take k ++ [t]) := by show _ = _; rw [List.take_add_one, htk]; rfl
      have Hq := Lib.hid hq
      have hgw : gt < wr.heap.size := by have := hR.out.gr.size; omega
      have hgw2 : t.g < wr.heap.size := by have := hR.out.gr.size; have := hNt.2.2.1; omega
      have hgl := hR.out.own.lt.2
      have hl6 : l ≤ 1100000 := by have := hNt.2.1; omega
      have HRh := Lib.hid hR
      have q0 : (k : Int) < (P.length : Int) := by omega
      have q1 : (0 : Int) ≤ (k : Int) := by omega
      have q2 : (0 : Int) ≤ (q : Int) := by omega
      have q3 : (q : Int) < (M : Int) := by omega
      clear hNt hgt hb2 p0 p1 j0 j1 j2 j3 j4 hq htk hR
      have HS : Hid (tabI M (tabP (P.take (k + 1))) = (tabI M (tabP (P.take k))).set q t.c) := by show _ = _; rw [htake.out, tabP_snoc, tabI_set, Hq.out]
      go_wp2_with fail
      obtain ⟨wb, hwb⟩ : ∃ wb, wb = wr.alloc (.cells #[.int .i64 t.c, .slice (some ⟨t.g, 0, none⟩) (l + 1) t.cap] 86) := ⟨_, rfl⟩
      have hbb : Below wr.heap.size wr wb := by rw [hwb]; exact (Below.refl _ _).alloc (Nat.le_refl _) _
      have b0 : wb.cell? ⟨wr.heap.size, 0, none⟩ = some (.int .i64 t.c) := by rw [hwb, newAt rfl]; rfl
      have b1 : wb.cell? ⟨wr.heap.size, 1, none⟩ = some (.slice (some ⟨t.g, 0, none⟩) (l + 1) t.cap) := by rw [hwb, newAt rfl]; rfl
      have bs : wb.heap.size = wr.heap.size + 1 := by rw [hwb]; simp
      have bz : wb.cell? ⟨t.g, l, none⟩ = some (.int .i64 (q : Int)) := by rw [hbb.cell (p := ⟨t.g, l, none⟩) hgw2]; exact hz
      have HRo := Lib.hid (HRh.out.own.grow hbb)
      have HRg := Lib.hid (grown_below HRh.out.gr hbb)
      rw [← hwb]
      have bl : wr.heap.size < wb.heap.size := by omega
      have Bz := Lib.hid bz
      have B0 := Lib.hid b0
      have B1 := Lib.hid b1
      have hgl2 : g < wb.heap.size := by omega
      have hgw3 : t.g < wb.heap.size := by omega
      have Bs := Lib.hid bs
      clear hwb hbb z0 z1 hz bz hgw hgw2 hgl bs HRh htake Hq hlt2 hngt hgne
      go_region_with (first | (go_at_call 73; refine (end_any t.c (q : Int) t.g l t.cap wb.drew hl6 hgw3 Bz.out).mono ?_; rintro e w6 ⟨rfl, hb6⟩; have hb7 : Below wb.heap.size wb w6 := below_undrew hb6; have x0 : w6.cell? ⟨wr.heap.size, 0, none⟩ = some (.int .i64 t.c) := (hb7.cell (p := ⟨wr.heap.size, 0, none⟩) bl).trans B0.out; have HO6 := Lib.hid (HRo.out.grow hb7); have HG6 := Lib.hid (grown_below HRg.out hb7); have f6 := HO6.out.frz q; have c6 := HO6.out.at hqM (tabI_at _ hqM); have l6 := HO6.out.lt.2; have s6 := hb7.size; clear hb6 hb7))
      all_goals
        go_wp2_with fail
        go_roundw
        case rel => exact ⟨k + 1, by omega, by go_num, Lib.hid (DiR.put HS.out HO6.out HG6.out)⟩
        case measure => simp [intOf]; omega
    · obtain rfl : P.length = k := by omega
      have hge : ¬ ((P.length : Int) < (P.length : Int)) := by omega
      have hE : tabI M (tabP (P.take P.length)) = tabI M (rounds L (s : Int) M) := by
        rw [List.take_length]
        exact tabI_congr fun i _ => tabP_dist HG.out ⟨by omega, by omega⟩ HF.out i
      have HE := Lib.hid hE
      clear hE
      go_wp2_with fail
      refine bodyPost_ret (v := .slice (some ⟨g, 0, none⟩) M M) (by simp [results, Try.results89, go_sem]) rfl ⟨_, rfl, ?_, ?_⟩
      · rw [← HE.out]
        exact (hR.out.own.toRow (by omega)).wide hwB2 (Nat.le_refl _)
      · have b := hR.out.own.below
        have e := hR.out.gr
        refine ⟨e.os.trans HB4.out.os, e.tape.trans HB4.out.tape, e.output.trans HB4.out.output, by have := HB4.out.size; have := e.size; omega, fun x hx => ?_⟩
        exact (e.block x (by have := HB4.out.size; omega) (fun h => by have := Option.some.inj h; omega)).trans (HB4.out.block x hx)

end Go.Proofs.Ytjenjdhoblcohaa
