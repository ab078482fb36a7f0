/- Distances: the model. -/
import Derived.Test.YtnpdbieadjgghaaGreatOi
import Derived.Test.YtnpdbieadjgghaaGreatMf
import Derived.Test.YtnpdbieadjgghaaGreatW5
import Derived.Test.YtnpdbieadjgghaaGreatW4
import Derived.Test.YtnpdbieadjgghaaGreatW6
namespace Go.Proofs.YtnpdbieadjgghaaGreat
open Go.RowKit


/-- The distances behind k rounds and j edges more. -/
def accD (L : List Ed) (s : Int) (k j : Nat) : Int → Int := (L.take j).foldl relax (rounds L s k)
theorem accD_zero (L : List Ed) (s : Int) (k : Nat) : accD L s k 0 = rounds L s k := rfl
theorem accD_all (L : List Ed) (s : Int) (k : Nat) {n : Nat} (h : L.length = n) : accD L s k n = rounds L s (k + 1) := by unfold accD; rw [List.take_of_length_le (by omega)]; rfl
theorem accD_succ {L : List Ed} {j : Nat} {e : Ed} (s : Int) (k : Nat) (h : L[j]? = some e) : accD L s k (j + 1) = relax (accD L s k j) e := by unfold accD; rw [take_snoc3 h, List.foldl_append]; rfl
def BndD (d : Int → Int) : Prop := ∀ x, 0 ≤ d x ∧ d x ≤ 1000000
theorem BndD.relax {d : Int → Int} (h : BndD d) {e : Ed} (he : 0 ≤ e.2.2) : BndD (relax d e) := fun x => by
  unfold Go.Proofs.YtnpdbieadjgghaaGreat.relax
  split
  · rename_i hh
    show 0 ≤ (if x = e.2.1 then d e.1 + e.2.2 else d x) ∧ (if x = e.2.1 then d e.1 + e.2.2 else d x) ≤ 1000000
    have h1 := h x
    have h2 := h e.1
    have h3 := h e.2.1
    split <;> omega
  · exact h x
theorem foldl_bnd {N : Int} {L : List Ed} (hG : gok N L = true) : ∀ (M : List Ed) (d : Int → Int), (∀ e ∈ M, e ∈ L) → BndD d → BndD (M.foldl relax d)
  | [], _, _, h => h
  | e :: M, d, hM, h => foldl_bnd hG M (relax d e) (fun f hf => hM f (List.mem_cons_of_mem _ hf)) (h.relax (by have := gok_mem hG (hM e (List.mem_cons_self)); omega))
theorem rounds_bnd {N : Int} {L : List Ed} (hG : gok N L = true) (s : Int) : ∀ k, BndD (rounds L s k)
  | 0 => fun x => by
    show 0 ≤ (if x = s then 0 else Far) ∧ (if x = s then 0 else Far) ≤ 1000000
    unfold Far
    split <;> omega
  | k + 1 => foldl_bnd hG L _ (fun _ h => h) (rounds_bnd hG s k)
theorem accD_bnd {N : Int} {L : List Ed} (hG : gok N L = true) (s : Int) (k j : Nat) : BndD (accD L s k j) := foldl_bnd hG _ _ (fun _ h => List.mem_of_mem_take h) (rounds_bnd hG s k)
theorem relax_yes {d : Int → Int} {a b c : Int} (h1 : d a < 1000000) (h2 : d a + c < d b) : relax d (a, b, c) = fun x => if x = b then d a + c else d x := if_pos ⟨h1, h2⟩
theorem relax_no1 {d : Int → Int} {a b c : Int} (h1 : ¬ d a < 1000000) : relax d (a, b, c) = d := if_neg (fun h => h1 h.1)
theorem relax_no2 {d : Int → Int} {a b c : Int} (h2 : ¬ d a + c < d b) : relax d (a, b, c) = d := if_neg (fun h => h2 h.2)

set_option maxRecDepth 100000 in
set_option maxHeartbeats 4000000 in
theorem sdist_yes (M : Nat) (lo hi n : Nat) (v : Value) (L : List Ed) (s : Nat) (w : World) (hL : L.length = n) (hr : Row 3 w lo hi v n (flat L)) (hh : hi ≤ w.heap.size) (hG : gok (M : Int) L = true) (hs : s < M) :
    Calls Tryz.prog 25 #[.agg #[.int .i64 (M : Int), v], .int .i64 (s : Int)] w fun e w' => ∃ rv, e = .returned rv ∧ Row 1 w' w.heap.size w'.heap.size rv M (tabI M (rounds L (s : Int) M)) ∧ Below w.heap.size w w' := by
  have HR := Lib.hid hr
  have HG := Lib.hid hG
  have HL := Lib.hid hL
  have hN1 := (gok_parts hG).1
  have hN2 := (gok_parts hG).2.1
  have h60 : n ≤ 60 := by have := (gok_parts hG).2.2.1; omega
  have hnd : ndB (M : Int) (s : Int) = true := by unfold ndB; rw [inB_iff]; omega
  obtain ⟨ad, cp, rfl, _, hc⟩ := hr.opened
  have HC := Lib.hid hc
  obtain ⟨i3, hi, hz0, hz1, hz2⟩ := info_parts Tryz.info3
  have I := Lib.hid (And.intro hi (And.intro hz0 (And.intro hz1 hz2)))
  clear hr hc hi hz0 hz1 hz2
  go_enter Tryz.func25, Tryz.ntmps25
  go_wp2_with fail
  go_at_call 49
  refine (sgok_any (M : Int) lo hi n _ L _ hL (HR.out.below (B := w.heap.size) (by go_grown) (by omega)) (by simp; omega)).mono ?_
  rw [HG.out]
  rintro e v1 ⟨rfl, hb1⟩
  have sz1 : w.heap.size + 1 ≤ v1.heap.size := by have hh := hb1.size; simp at hh; omega
  have st1 : Below w.heap.size w v1 := Below.trans (by go_grown) (hb1.mono (by simp))
  have c1_0 : v1.cell? ⟨w.heap.size, 0, none⟩ = some (.int .i64 (M : Int)) := by rw [(bcell hb1).1 _ _ (by simp)]; first | (rw [new_at (by simp)]; rfl) | simp
  have c1_1 : v1.cell? ⟨w.heap.size, 1, none⟩ = some (.slice ad n cp) := by rw [(bcell hb1).1 _ _ (by simp)]; first | (rw [new_at (by simp)]; rfl) | simp
  have B1 : Hid (Below w.heap.size w v1) := st1
  have R1_0 : Hid (Row 3 v1 (lo) (hi) (.slice ad n cp) n (flat L)) := HR.out.below st1 (by omega)
  have d1_0 : w.heap.size < v1.heap.size := by omega
  have e1_0 : w.heap.size ≠ v1.heap.size := by omega
  clear st1 HR hb1
  go_wp2_with fail
  go_at_call 57
  refine (node_any (M : Int) _ _ _ (s : Int) _ hN1 hN2).mono ?_
  rw [hnd]
  rintro e v2 ⟨rfl, hb2⟩
  have sz2 : v1.heap.size ≤ v2.heap.size := hb2.size
  have st2 : Below v1.heap.size v1 v2 := hb2
  have c2_0 : v2.cell? ⟨w.heap.size, 0, none⟩ = some (.int .i64 (M : Int)) := by rw [(bcell st2).1 _ _ (by omega)]; exact c1_0
  have c2_1 : v2.cell? ⟨w.heap.size, 1, none⟩ = some (.slice ad n cp) := by rw [(bcell st2).1 _ _ (by omega)]; exact c1_1
  have B2 : Hid (Below w.heap.size w v2) := B1.out.trans (st2.mono (by omega))
  have R2_0 : Hid (Row 3 v2 (lo) (hi) (.slice ad n cp) n (flat L)) := R1_0.out.below st2 (by omega)
  have d2_0 : w.heap.size < v2.heap.size := by omega
  have e2_0 : w.heap.size ≠ v2.heap.size := by omega
  clear d1_0 e1_0 c1_0 c1_1 B1 st2 R1_0 hb2
  go_wp2_with fail
  have HB := B2
  have k0 : v2.cell? ⟨w.heap.size, 0, none⟩ = some (.int .i64 (M : Int)) := c2_0
  have k1 : v2.cell? ⟨w.heap.size, 1, none⟩ = some (.slice ad n cp) := c2_1
  have hwv : w.heap.size < v2.heap.size := by omega
  have HO := Lib.hid (OwnI.lit0 v2)
  clear hnd
  go_loopw [5, 6] (fun v i wr => ∃ k : Nat, k ≤ M ∧ i = .int .i64 (k : Int) ∧ Hid (OwnI v2 wr v k (tabI k (fun _ => 1000000)))) (fun _ i _ => M - (intOf i).toNat)
  case atStart => exact ⟨0, Nat.zero_le _, rfl, HO⟩
  case round =>
    obtain ⟨k, hk, rfl, hR⟩ := hrel
    have c0 : wr.cell? ⟨w.heap.size, 0, none⟩ = some (.int .i64 (M : Int)) := by rw [hR.out.below.cell (p := ⟨w.heap.size, 0, none⟩) hwv]; exact k0
    have hsz := hR.out.below.size
    obtain ⟨oa, oc, ho⟩ := own_slice hR.out.row
    subst ho
    by_cases hlt : k < M
    · have q0 : (k : Int) < (M : Int) := by omega
      have Hw := Lib.hid hR.out.row
      go_wp2_with (at_builtin; refine wpList_append_lies _ rfl _ _ 38 rfl v2.heap.size 3 i3 (.int .i64 0) 1 8 Tryz.underlying38 I.out.1 I.out.2.1 I.out.2.2.1 I.out.2.2.2 rfl (by decide) _ k (ints (tabI k (fun _ => 1000000))) rfl (Hw.out.alloc _) ⟨wr.heap.size, 0, none⟩ 1 1 [.int .i64 1000000] rfl rfl ?d0 (int_one _) (by decide) ?d1 ?d2 ?d3 _ rfl ?_)
      case d0 => exact fun j u hj => cell_one_new _ _ 3 rfl j u hj
      case d1 => unfold maxLen; omega
      case d2 => omega
      case d3 => simp; omega
      intro g4 cap4 w4 hown4 hgrow4 hat4 hlt4
      have HF : Hid (OwnI v2 w4 (.slice (some ⟨g4, 0, none⟩) (k + 1) cap4) (k + 1) (tabI (k + 1) (fun _ => 1000000))) := by show OwnI _ _ _ _ _; rw [tabI_succ]; exact (hR.out.grow ((Below.refl _ _).alloc (Nat.le_refl _) _)).app hgrow4 hown4
      clear hown4 hgrow4 hat4 hlt4 hR Hw
      go_wp2_with fail
      go_roundw
      case rel => exact ⟨k + 1, by omega, by go_num, HF⟩
      case measure => simp [intOf]; omega
    · obtain rfl : M = k := by omega
      obtain ⟨g, cap, hv⟩ := hR.out.form (by omega)
      cases hv
      have hge : ¬ ((M : Int) < (M : Int)) := by omega
      have q0 : (0 : Int) ≤ (s : Int) := by omega
      have q1 : (s : Int) < (M : Int) := by omega
      have fz : wr.frozen? ⟨g, s, none⟩ = false := hR.out.frz s
      have cz : wr.cell? ⟨g, s, none⟩ = some (.int .i64 1000000) := hR.out.at hs (tabI_at _ hs)
      have hgl := hR.out.lt
      have HS : Hid (OwnI v2 (wr.setCell ⟨g, s, none⟩ (.int .i64 0)) (.slice (some ⟨g, 0, none⟩) M oc) M (tabI M (rounds L (s : Int) 0))) := by
        have := hR.out.set s 0
        rw [tabI_set] at this
        exact this
      clear hR
      go_wp2_with fail
      obtain ⟨ws, hws⟩ : ∃ ws, ws = wr.setCell ⟨g, s, none⟩ (.int .i64 0) := ⟨_, rfl⟩
      rw [← hws] at HS ⊢
      have hgv := hgl.1
      clear hws hgl hlt hge fz cz c0 hsz
      go_loopw [7] (fun i wr => ∃ k : Nat, k ≤ M ∧ i = .int .i64 (k : Int) ∧ Hid (OwnI v2 wr (.slice (some ⟨g, 0, none⟩) M oc) M (tabI M (rounds L (s : Int) k)))) (fun i _ => M - (intOf i).toNat)
      case atStart => exact ⟨0, Nat.zero_le _, rfl, HS⟩
      case round =>
        obtain ⟨k, hk, rfl, hR⟩ := hrel
        have c0 : wr.cell? ⟨w.heap.size, 0, none⟩ = some (.int .i64 (M : Int)) := by rw [hR.out.below.cell (p := ⟨w.heap.size, 0, none⟩) hwv]; exact k0
        have hsz := hR.out.below.size
        by_cases hlt : k < M
        · have q0 : (k : Int) < (M : Int) := by omega
          have HS : Hid (OwnI v2 wr (.slice (some ⟨g, 0, none⟩) M oc) M (tabI M (accD L (s : Int) k 0))) := hR
          clear hR
          go_wp2_with fail
          obtain ⟨wo, rfl⟩ : ∃ wo : World, wo = wr := ⟨_, rfl⟩
          clear c0 hsz
          go_loopw [8] (fun i wr => ∃ j : Nat, j ≤ n ∧ i = .int .i64 (j : Int) ∧ Hid (OwnI v2 wr (.slice (some ⟨g, 0, none⟩) M oc) M (tabI M (accD L (s : Int) k j)))) (fun i _ => n - (intOf i).toNat)
          case atStart => exact ⟨0, Nat.zero_le _, rfl, HS⟩
          case round =>
            obtain ⟨j, hj, rfl, hR⟩ := hrel
            have c1 : wr.cell? ⟨w.heap.size, 1, none⟩ = some (.slice ad n cp) := by rw [hR.out.below.cell (p := ⟨w.heap.size, 1, none⟩) hwv]; exact k1
            have hsz := hR.out.below.size
            by_cases hlt2 : j < n
            · obtain ⟨ge, rfl, hge, hcell⟩ := HC.out (by omega)
              obtain ⟨r, hr⟩ : ∃ r, L[j]? = some r := ⟨L[j]'(by rw [HL.out]; exact hlt2), List.getElem?_eq_getElem _⟩
              have hm := gok_mem HG.out (List.mem_of_getElem? hr)
              have HA := Lib.hid (accD_succ (s : Int) k hr)
              obtain ⟨a, b, c⟩ := r
              obtain ⟨r0, r1, r2⟩ := flat_at L j _ hr
              obtain ⟨⟨ha0, ha1⟩, ⟨hb0, hb1⟩, hab, hc0, hc1⟩ := hm
              simp only at ha0 ha1 hb0 hb1 hab hc0 hc1
              obtain ⟨a, rfl⟩ : ∃ a' : Nat, a = (a' : Int) := ⟨a.toNat, by omega⟩
              obtain ⟨b, rfl⟩ : ∃ b' : Nat, b = (b' : Int) := ⟨b.toNat, by omega⟩
              have z0 : wr.cell? ⟨ge, j * 3, none⟩ = some (.int .i64 (a : Int)) := by rw [hR.out.below.cell (p := ⟨ge, j * 3, none⟩) (by show ge < _; omega), HB.out.cell (p := ⟨ge, j * 3, none⟩) (by show ge < _; omega)]; exact hcell _ _ r0
              have z1 : wr.cell? ⟨ge, j * 3 + 1, none⟩ = some (.int .i64 (b : Int)) := by rw [hR.out.below.cell (p := ⟨ge, j * 3 + 1, none⟩) (by show ge < _; omega), HB.out.cell (p := ⟨ge, j * 3 + 1, none⟩) (by show ge < _; omega)]; exact hcell _ _ r1
              have z2 : wr.cell? ⟨ge, j * 3 + 2, none⟩ = some (.int .i64 c) := by rw [hR.out.below.cell (p := ⟨ge, j * 3 + 2, none⟩) (by show ge < _; omega), HB.out.cell (p := ⟨ge, j * 3 + 2, none⟩) (by show ge < _; omega)]; exact hcell _ _ r2
              have hbd := accD_bnd HG.out (s : Int) k j
              obtain ⟨da, hda⟩ : ∃ z, z = accD L (s : Int) k j (a : Int) := ⟨_, rfl⟩
              obtain ⟨db, hdb⟩ : ∃ z, z = accD L (s : Int) k j (b : Int) := ⟨_, rfl⟩
              have hda1 := hbd (a : Int)
              have hdb1 := hbd (b : Int)
              rw [← hda] at hda1
              rw [← hdb] at hdb1
              have hgl := hR.out.lt.2
              have HRb := Lib.hid (hR.out.grow ((Below.refl _ _).alloc (Nat.le_refl _) (.cells #[.int .i64 ((a : Nat) : Int), .int .i64 ((b : Nat) : Int), .int .i64 c] 75)))
              have y0 : (wr.alloc (.cells #[.int .i64 ((a : Nat) : Int), .int .i64 ((b : Nat) : Int), .int .i64 c] 75)).cell? ⟨g, a, none⟩ = some (.int .i64 da) := by rw [hda]; exact HRb.out.at (by omega) (tabI_at _ (by omega))
              have y1 : (wr.alloc (.cells #[.int .i64 ((a : Nat) : Int), .int .i64 ((b : Nat) : Int), .int .i64 c] 75)).cell? ⟨g, b, none⟩ = some (.int .i64 db) := by rw [hdb]; exact HRb.out.at (by omega) (tabI_at _ (by omega))
              have y2 : (wr.alloc (.cells #[.int .i64 ((a : Nat) : Int), .int .i64 ((b : Nat) : Int), .int .i64 c] 75)).frozen? ⟨g, b, none⟩ = false := HRb.out.frz b
              have e1 : IntKind.i64.wrap (da + c) = da + c := IntWalk.i64_in _ (by omega)
              have Hda := Lib.hid hda
              have Hdb := Lib.hid hdb
              have Hab := Lib.hid hab
              have p0 : (j : Int) < (n : Int) := by omega
              have p1 : (0 : Int) ≤ (a : Int) := by omega
              have p2 : (0 : Int) ≤ (b : Int) := by omega
              clear hr r0 r1 r2 hcell hbd hda hdb hab hR
              by_cases h1 : da < 1000000
              · have d1 : decide (da < 1000000) = true := decide_eq_true h1
                by_cases h2 : da + c < db
                · have d2 : decide (da + c < db) = true := decide_eq_true h2
                  have HA2 : Hid (tabI M (accD L (s : Int) k (j + 1)) = (tabI M (accD L (s : Int) k j)).set b (da + c)) := by
                    show _ = _
                    rw [tabI_set, HA.out, relax_yes (by rw [← Hda.out]; exact h1) (by rw [← Hda.out, ← Hdb.out]; exact h2), ← Hda.out]
                  go_wp2_with fail
                  go_quiet (fail)
                  go_wp2_with fail
                  go_region
                  go_wp2_with fail
                  go_roundw
                  case rel => exact ⟨j + 1, by omega, by go_num, Lib.hid (by rw [HA2.out]; exact (HRb.out.drewN _).set b (da + c))⟩
                  case measure => simp [intOf]; omega
                · have d2 : decide (da + c < db) = false := decide_eq_false h2
                  have HE : Hid (OwnI v2 (wr.alloc (.cells #[.int .i64 ((a : Nat) : Int), .int .i64 ((b : Nat) : Int), .int .i64 c] 75)) (.slice (some ⟨g, 0, none⟩) M oc) M (tabI M (accD L (s : Int) k (j + 1)))) := by
                    show OwnI _ _ _ _ _
                    rw [HA.out, relax_no2 (by rw [← Hda.out, ← Hdb.out]; exact h2)]
                    exact HRb.out
                  clear HRb
                  go_wp2_with fail
                  go_quiet (fail)
                  go_wp2_with fail
                  go_roundw
                  case rel => exact ⟨j + 1, by omega, by go_num, Lib.hid (HE.out.drewN _)⟩
                  case measure => simp [intOf]; omega
              · have d1 : decide (da < 1000000) = false := decide_eq_false h1
                have HE : Hid (OwnI v2 (wr.alloc (.cells #[.int .i64 ((a : Nat) : Int), .int .i64 ((b : Nat) : Int), .int .i64 c] 75)) (.slice (some ⟨g, 0, none⟩) M oc) M (tabI M (accD L (s : Int) k (j + 1)))) := by
                  show OwnI _ _ _ _ _
                  rw [HA.out, relax_no1 (by rw [← Hda.out]; exact h1)]
                  exact HRb.out
                clear HRb
                go_wp2_with fail
                go_quiet (fail)
                go_wp2_with fail
                go_roundw
                case rel => exact ⟨j + 1, by omega, by go_num, Lib.hid (HE.out.drewN _)⟩
                case measure => simp [intOf]; omega
            · obtain rfl : n = j := by omega
              have hge : ¬ ((n : Int) < (n : Int)) := by omega
              have HE : Hid (OwnI v2 wr (.slice (some ⟨g, 0, none⟩) M oc) M (tabI M (rounds L (s : Int) (k + 1)))) := by show OwnI _ _ _ _ _; rw [← accD_all L (s : Int) k HL.out]; exact hR.out
              clear hR
              go_wp2_with fail
              go_roundw
              case rel => exact ⟨k + 1, by omega, by go_num, HE⟩
              case measure => simp [intOf]; omega
        · obtain rfl : M = k := by omega
          have hge : ¬ ((M : Int) < (M : Int)) := by omega
          have HE := hR
          clear hR
          go_wp2_with fail
          refine bodyPost_ret (v := .slice (some ⟨g, 0, none⟩) M oc) (by simp [results, Tryz.results25, go_sem]) rfl ⟨_, rfl, ?_, HB.out.trans (HE.out.below.mono (by omega))⟩
          exact (HE.out.toRow (by omega)).wide (by omega) (Nat.le_refl _)

end Go.Proofs.YtnpdbieadjgghaaGreat
