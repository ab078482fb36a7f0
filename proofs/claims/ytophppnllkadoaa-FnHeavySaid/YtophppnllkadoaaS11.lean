/- An addition put into a list by the program. -/
import Derived.Test.YtophppnllkadoaaS10
import Derived.Test.YtophppnllkadoaaS8
import Derived.Test.YtophppnllkadoaaS4
namespace Go.Proofs.Ytophppnllkadoaa
open Go.RowKit


theorem icpT_any (lo hi n : Nat) (v : Value) (L : List Hv) (w : World) (hL : L.length = n) (hr : Row 3 w lo hi v n (flat L)) (hh : hi ≤ w.heap.size) :
    Calls Try.prog 78 #[.agg #[v]] w (TabPost L w) := by
  have hn : n ≤ 1100000 := by obtain ⟨_, _, _, hn, _⟩ := hr.opened; exact hn
  refine (icp_any lo hi n v L w hL hr hh).mono ?_
  rintro e w' ⟨rv, rfl, hO⟩
  exact ⟨rv, rfl, by rw [hL]; exact hO.toRow hn, hO.below⟩
theorem OwnR.form {w0 w : World} {v : Value} {n : Nat} {L : List Hv} (h : OwnR 43 3 w0 w v n (flat L)) (h0 : 0 < n) : ∃ g cap, v = .slice (some ⟨g, 0, none⟩) n cap ∧ OwnH w0 w g cap n L := by
  obtain ⟨g, cap, e, _⟩ := h.row.form h0
  subst e
  exact ⟨g, cap, rfl, h⟩

set_option maxRecDepth 100000 in
set_option maxHeartbeats 1000000 in
theorem iplus_any (lo hi n : Nat) (v : Value) (L : List Hv) (key num : Int) (w : World) (hL : L.length = n) (hr : Row 3 w lo hi v n (flat L)) (hh : hi ≤ w.heap.size) (hT : TopP L) (ha : adB key num = true) :
    Calls Try.prog 79 #[.agg #[v], .agg #[.int .i64 key, .int .i64 num]] w (TabPost (addOut L key num) w) := by
  have HR := Lib.hid hr
  obtain ⟨ad, cp, rfl, hn, _⟩ := hr.opened
  clear hr
  obtain ⟨iI, hi0, hz0, hz1, hz2⟩ := info_parts Try.info43q
  have I := Lib.hid (And.intro hi0 (And.intro hz0 (And.intro hz1 hz2)))
  clear hi0 hz0 hz1 hz2
  have hn4 : n ≤ 4 := by rw [← hL]; exact hT.1
  have hpl := prgS_len hT key num
  obtain ⟨hnb1, hnb2⟩ : 1 ≤ num ∧ num ≤ 1000000 := (adB_iff.1 ha).2
  have HT := Lib.hid hT
  clear hT ha
  go_enter Try.func79, Try.ntmps79
  go_upto_region 1 with fail
  obtain ⟨q1, hq1⟩ : ∃ q, q = (((w.alloc (.cells #[.slice ad n cp] 38)).alloc (.cells #[.int .i64 key, .int .i64 num] 33)).alloc (.cells #[.slice none 0 0] 38)) := ⟨_, rfl⟩
  have hb1 : Below w.heap.size w q1 := by rw [hq1]; go_grown
  have sz1 : w.heap.size + 3 ≤ q1.heap.size := by rw [hq1]; simp
  have c1_0 : q1.cell? ⟨w.heap.size, 0, none⟩ = some (.slice ad n cp) := by rw [hq1, old_box (by simp <;> omega), old_box (by simp <;> omega), new_at (by simp)]; rfl
  have c1_1 : q1.cell? ⟨w.heap.size + 1, 0, none⟩ = some (.int .i64 key) := by rw [hq1, old_box (by simp <;> omega), new_at (by simp)]; rfl
  have c1_2 : q1.cell? ⟨w.heap.size + 1, 1, none⟩ = some (.int .i64 num) := by rw [hq1, old_box (by simp <;> omega), new_at (by simp)]; rfl
  have c1_3 : q1.cell? ⟨w.heap.size + 1 + 1, 0, none⟩ = some (.slice none 0 0) := by rw [hq1, new_at (by simp)]; rfl
  have g1_0 : q1.frozen? ⟨w.heap.size + 1 + 1, 0, none⟩ = false := by rw [hq1, new_frz (by simp)]
  have B1 : Hid (Below w.heap.size w q1) := Lib.hid hb1
  rw [← hq1]
  have d1_0 : w.heap.size < q1.heap.size := by omega
  have e1_0 : w.heap.size ≠ q1.heap.size := by omega
  have d1_1 : w.heap.size + 1 < q1.heap.size := by omega
  have e1_1 : w.heap.size + 1 ≠ q1.heap.size := by omega
  have d1_2 : w.heap.size + 1 + 1 < q1.heap.size := by omega
  have e1_2 : w.heap.size + 1 + 1 ≠ q1.heap.size := by omega
  clear hq1 hb1
  have HC0 : Hid (q1.cell? ⟨w.heap.size, 0, none⟩ = some (.slice ad n cp)) := c1_0
  have HC1 : Hid (q1.cell? ⟨w.heap.size + 1, 0, none⟩ = some (.int .i64 key)) := c1_1
  have HC2 : Hid (q1.cell? ⟨w.heap.size + 1, 1, none⟩ = some (.int .i64 num)) := c1_2
  have HC3 : Hid (q1.cell? ⟨w.heap.size + 1 + 1, 0, none⟩ = some (.slice none 0 0)) := c1_3
  have HJ : Hid (q1.frozen? ⟨w.heap.size + 1 + 1, 0, none⟩ = false) := g1_0
  go_wp2_with fail
  go_at_call 78
  refine (icp_any lo hi n _ L _ hL (HR.out.below B1.out hh) (by omega)).mono ?_
  rintro e v2 ⟨rv, rfl, hO2⟩
  obtain ⟨ra, rc, rfl⟩ := own_slice hO2.row
  have hfd : ∀ w : World, (Instr.field 38 (.agg #[.slice ra n rc]) 0).run Try.prog w = .ok (.slice ra n rc) w := fun _ => by kernel_rfl
  have HO2 := Lib.hid hO2
  clear hO2 c1_0 c1_1 c1_2 c1_3 g1_0
  have hqw : w.heap.size + 3 ≤ q1.heap.size := by omega
  have kx0 : v2.cell? ⟨w.heap.size, 0, none⟩ = some (.slice ad n cp) := by rw [HO2.out.below.cell (p := ⟨w.heap.size, 0, none⟩) (by show w.heap.size < _; omega)]; exact HC0.out
  have kx1 : v2.cell? ⟨w.heap.size + 1, 0, none⟩ = some (.int .i64 key) := by rw [HO2.out.below.cell (p := ⟨w.heap.size + 1, 0, none⟩) (by show w.heap.size + 1 < _; omega)]; exact HC1.out
  have kx2 : v2.cell? ⟨w.heap.size + 1, 1, none⟩ = some (.int .i64 num) := by rw [HO2.out.below.cell (p := ⟨w.heap.size + 1, 1, none⟩) (by show w.heap.size + 1 < _; omega)]; exact HC2.out
  have kx3 : v2.cell? ⟨w.heap.size + 1 + 1, 0, none⟩ = some (.slice none 0 0) := by rw [HO2.out.below.cell (p := ⟨w.heap.size + 1 + 1, 0, none⟩) (by show w.heap.size + 1 + 1 < _; omega)]; exact HC3.out
  have jx : v2.frozen? ⟨w.heap.size + 1 + 1, 0, none⟩ = false := by rw [HO2.out.below.frozen (p := ⟨w.heap.size + 1 + 1, 0, none⟩) (by show w.heap.size + 1 + 1 < _; omega)]; exact HJ.out
  have sx : q1.heap.size ≤ v2.heap.size := HO2.out.below.size
  go_wp2_with fail
  go_at_call 73
  refine (find_any lo hi n _ L key _ hL (HR.out.below (B1.out.trans (HO2.out.below.mono (by omega))) hh) (by omega)).mono ?_
  rintro e v3 ⟨rfl, hb3⟩
  have HO3 := Lib.hid (HO2.out.grow hb3)
  clear kx0 kx1 kx2 kx3 jx
  clear hb3 HO2 hfd
  have ky0 : v3.cell? ⟨w.heap.size, 0, none⟩ = some (.slice ad n cp) := by rw [HO3.out.below.cell (p := ⟨w.heap.size, 0, none⟩) (by show w.heap.size < _; omega)]; exact HC0.out
  have ky1 : v3.cell? ⟨w.heap.size + 1, 0, none⟩ = some (.int .i64 key) := by rw [HO3.out.below.cell (p := ⟨w.heap.size + 1, 0, none⟩) (by show w.heap.size + 1 < _; omega)]; exact HC1.out
  have ky2 : v3.cell? ⟨w.heap.size + 1, 1, none⟩ = some (.int .i64 num) := by rw [HO3.out.below.cell (p := ⟨w.heap.size + 1, 1, none⟩) (by show w.heap.size + 1 < _; omega)]; exact HC2.out
  have ky3 : v3.cell? ⟨w.heap.size + 1 + 1, 0, none⟩ = some (.slice none 0 0) := by rw [HO3.out.below.cell (p := ⟨w.heap.size + 1 + 1, 0, none⟩) (by show w.heap.size + 1 + 1 < _; omega)]; exact HC3.out
  have jy : v3.frozen? ⟨w.heap.size + 1 + 1, 0, none⟩ = false := by rw [HO3.out.below.frozen (p := ⟨w.heap.size + 1 + 1, 0, none⟩) (by show w.heap.size + 1 + 1 < _; omega)]; exact HJ.out
  have sy : q1.heap.size ≤ v3.heap.size := HO3.out.below.size
  by_cases hf : fndN L key < n
  case pos =>
    have hfi : fndI L key = ((fndN L key : Nat) : Int) := by unfold fndI; rw [if_pos (by rw [hL]; exact hf)]
    rw [hfi]
    have hps : Hid (prgS L key num = L.set (fndN L key) (addNew L key num)) := by show _ = _; unfold prgS; rw [if_pos (by rw [hL]; exact hf)]
    obtain ⟨⟨r, hr1, hr2⟩, _⟩ := fndN_spec L key (by rw [hL]; exact hf)
    obtain ⟨x, y, z⟩ := r
    have hx : x = key := hr2
    subst hx
    have hnw : Hid (addNew L x num = (x, y + num, z)) := by show _ = _; unfold addNew; rw [if_pos (by rw [hL]; exact hf), getD_at hr1]
    have hbz := hvB_iff.1 (HT.out.at_ hr1)
    have hy1 : 1 ≤ y := hbz.2.1.1
    have hy2 : y ≤ 1000000000000 := hbz.2.1.2
    clear hr2 hbz hfi
    obtain ⟨g, cap, he, hOH⟩ := HO3.out.form (by omega)
    simp only [Value.slice.injEq] at he
    obtain ⟨rfl, _, rfl⟩ := he
    obtain ⟨cap, rfl⟩ : ∃ c, c = rc := ⟨_, rfl⟩
    obtain ⟨z0, z1, z2⟩ := hOH.at_ hr1
    have hfz := hOH.frz (fndN L x * 3 + 1)
    have hgl := hOH.lt
    have hW0 := hOH.set1 hr1 (y + num)
    rw [← hnw.out, ← hps.out] at hW0
    have HW0 := Lib.hid hW0
    obtain ⟨p, hp⟩ : ∃ p, p = fndN L x := ⟨_, rfl⟩
    rw [← hp] at z0 z1 z2 hfz hf HW0 ⊢
    have wb : IntKind.i64.wrap (y + num) = y + num := IntWalk.i64_in _ (by omega)
    have p0 : (0 : Int) ≤ (p : Int) := by omega
    have p1 : (p : Int) < (n : Int) := by omega
    obtain ⟨M, hM⟩ : ∃ M, M = n := ⟨_, rfl⟩
    rw [← hM] at HW0
    have HM := Lib.hid hM
    have hM1 : 1 ≤ M := by omega
    have hM4 : M ≤ 4 := by omega
    have ng0 : g ≠ w.heap.size + 1 := by omega
    have ng1 : g ≠ w.heap.size := by omega
    clear hr1 hOH hW0 hp hM HO3
    go_upto_if 31 with fail
    go_wp2_with fail
    go_region
    obtain ⟨key, rfl⟩ : ∃ c, c = x := ⟨_, rfl⟩
    obtain rfl := HM.out
    go_wp2_with fail
    go_at_call 101
    refine (sort_any g cap M (prgS L key num) q1 _ (by omega) (by omega) (by first | exact HWd.out | exact HW0.out | exact HW0.out.drew | exact OwnH.drewN HW0.out _)).mono ?_
    rintro e w9 ⟨rfl, Z, hS, hOZ⟩
    have hZ : Z = addOut L key num := sorted_out HT.out key num hS.1 (by have h := hS.2; rw [List.take_of_length_le (Nat.le_of_eq hOZ.len)] at h; exact h)
    subst hZ
    have HOZ := Lib.hid hOZ
    have hMl : (addOut L key num).length = M := hOZ.len
    have HMl := Lib.hid hMl
    clear hS hOZ hMl
    have kz0 : w9.cell? ⟨w.heap.size, 0, none⟩ = some (.slice ad M cp) := by rw [HOZ.out.below.cell (p := ⟨w.heap.size, 0, none⟩) (by show w.heap.size < _; omega)]; exact HC0.out
    have kz1 : w9.cell? ⟨w.heap.size + 1, 0, none⟩ = some (.int .i64 key) := by rw [HOZ.out.below.cell (p := ⟨w.heap.size + 1, 0, none⟩) (by show w.heap.size + 1 < _; omega)]; exact HC1.out
    have kz2 : w9.cell? ⟨w.heap.size + 1, 1, none⟩ = some (.int .i64 num) := by rw [HOZ.out.below.cell (p := ⟨w.heap.size + 1, 1, none⟩) (by show w.heap.size + 1 < _; omega)]; exact HC2.out
    have kz3 : w9.cell? ⟨w.heap.size + 1 + 1, 0, none⟩ = some (.slice none 0 0) := by rw [HOZ.out.below.cell (p := ⟨w.heap.size + 1 + 1, 0, none⟩) (by show w.heap.size + 1 + 1 < _; omega)]; exact HC3.out
    have jz : w9.frozen? ⟨w.heap.size + 1 + 1, 0, none⟩ = false := by rw [HOZ.out.below.frozen (p := ⟨w.heap.size + 1 + 1, 0, none⟩) (by show w.heap.size + 1 + 1 < _; omega)]; exact HJ.out
    have sz : q1.heap.size ≤ w9.heap.size := HOZ.out.below.size
    have r0 : (w9.setCell ⟨w.heap.size + 1 + 1, 0, none⟩ (.slice (some ⟨g, 0, none⟩) M cap)).cell? ⟨w.heap.size + 1 + 1, 0, none⟩ = some (.slice (some ⟨g, 0, none⟩) M cap) := World.cell?_setCell_same' _ _ _ (by rw [kz3]; rfl)
    have Hrow := Lib.hid (((HOZ.out.toRow (by omega)).setCell (p := ⟨w.heap.size + 1 + 1, 0, none⟩) (.inl (by show w.heap.size + 1 + 1 < _; omega)) (.slice (some ⟨g, 0, none⟩) M cap)).wide (lo' := w.heap.size) (hi' := (w9.setCell ⟨w.heap.size + 1 + 1, 0, none⟩ (.slice (some ⟨g, 0, none⟩) M cap)).heap.size) (by omega) (by simp [World.setCell] <;> omega))
    have HB9 : Hid (Below w.heap.size w w9) := B1.out.trans (HOZ.out.below.mono (by omega))
    go_wp2_with fail
    refine bodyPost_ret (v := .agg #[.slice (some ⟨g, 0, none⟩) M cap]) (by simp [results, Try.results79, go_sem, r0]) rfl ⟨_, rfl, ?_, ?_⟩
    · rw [HMl.out]; exact Hrow.out
    · exact HB9.out.setCell (by show _ ≤ w.heap.size + 1 + 1; omega) _
  case neg =>
    have hfi : fndI L key = -1 := by unfold fndI; rw [if_neg (by rw [hL]; exact hf)]
    rw [hfi]
    clear hfi
    by_cases h4 : n = 4
    case neg =>
      have hps : Hid (prgS L key num = L ++ [(key, num, 0)]) := by show _ = _; unfold prgS addNew; rw [if_neg (by rw [hL]; exact hf), if_neg (by rw [hL]; exact h4), if_neg (by rw [hL]; exact hf), if_neg (by rw [hL]; exact h4)]
      have q4 : (n : Int) < 4 := by omega
      have HF := Lib.hid hf
      have H4 := Lib.hid h4
      clear hf h4
      go_wp2_with (at_builtin; refine wpList_append_lies _ rfl _ _ 36 rfl q1.heap.size 43 iI (.agg #[.int .i64 0, .int .i64 0, .int .i64 0]) 3 24 Try.underlying36 I.out.1 I.out.2.1 I.out.2.2.1 I.out.2.2.2 rfl (by decide) _ n (ints (flat L)) rfl (HO3.out.row.alloc _) ⟨v3.heap.size, 0, none⟩ 1 1 (ints [key, num, 0]) rfl rfl ?d0 (ints_one _) (by decide) ?d1 ?d2 ?d3 _ rfl ?_)
      case d0 => first | exact fun a_ u ha => cells_new _ [key, num, 0] 43 rfl a_ u ha | exact fun a_ u ha => by simpa [ints] using ha
      case d1 => unfold maxLen; omega
      case d2 => omega
      case d3 => first | omega | (simp; omega)
      intro g cap w5 hown4 hgrow4 hat4 hlt4
      obtain ⟨M, hM⟩ : ∃ M, M = n + 1 := ⟨_, rfl⟩
      have HW0 : Hid (OwnH q1 w5 g cap M (prgS L key num)) := by
        show OwnR _ _ _ _ _ _ _
        rw [hps.out, flat_app, flat_one, hM]
        exact (HO3.out.grow ((Below.refl _ _).alloc (Nat.le_refl _) _)).app hgrow4 hown4
      have hM1 : 1 ≤ M := by omega
      have hM4 : M ≤ 4 := by have := H4.out; omega
      rw [← hM]
      clear hown4 hgrow4 hat4 hlt4 hM HO3
      clear ky0 ky1 ky2 ky3 jy
      go_wp2_with fail
      go_at_call 101
      refine (sort_any g cap M (prgS L key num) q1 _ (by omega) (by omega) HW0.out).mono ?_
      rintro e w9 ⟨rfl, Z, hS, hOZ⟩
      have hZ : Z = addOut L key num := sorted_out HT.out key num hS.1 (by have h := hS.2; rw [List.take_of_length_le (Nat.le_of_eq hOZ.len)] at h; exact h)
      subst hZ
      have HOZ := Lib.hid hOZ
      have hMl : (addOut L key num).length = M := hOZ.len
      have HMl := Lib.hid hMl
      clear hS hOZ hMl
      have kz0 : w9.cell? ⟨w.heap.size, 0, none⟩ = some (.slice ad n cp) := by rw [HOZ.out.below.cell (p := ⟨w.heap.size, 0, none⟩) (by show w.heap.size < _; omega)]; exact HC0.out
      have kz1 : w9.cell? ⟨w.heap.size + 1, 0, none⟩ = some (.int .i64 key) := by rw [HOZ.out.below.cell (p := ⟨w.heap.size + 1, 0, none⟩) (by show w.heap.size + 1 < _; omega)]; exact HC1.out
      have kz2 : w9.cell? ⟨w.heap.size + 1, 1, none⟩ = some (.int .i64 num) := by rw [HOZ.out.below.cell (p := ⟨w.heap.size + 1, 1, none⟩) (by show w.heap.size + 1 < _; omega)]; exact HC2.out
      have kz3 : w9.cell? ⟨w.heap.size + 1 + 1, 0, none⟩ = some (.slice none 0 0) := by rw [HOZ.out.below.cell (p := ⟨w.heap.size + 1 + 1, 0, none⟩) (by show w.heap.size + 1 + 1 < _; omega)]; exact HC3.out
      have jz : w9.frozen? ⟨w.heap.size + 1 + 1, 0, none⟩ = false := by rw [HOZ.out.below.frozen (p := ⟨w.heap.size + 1 + 1, 0, none⟩) (by show w.heap.size + 1 + 1 < _; omega)]; exact HJ.out
      have sz : q1.heap.size ≤ w9.heap.size := HOZ.out.below.size
      have r0 : (w9.setCell ⟨w.heap.size + 1 + 1, 0, none⟩ (.slice (some ⟨g, 0, none⟩) M cap)).cell? ⟨w.heap.size + 1 + 1, 0, none⟩ = some (.slice (some ⟨g, 0, none⟩) M cap) := World.cell?_setCell_same' _ _ _ (by rw [kz3]; rfl)
      have Hrow := Lib.hid (((HOZ.out.toRow (by omega)).setCell (p := ⟨w.heap.size + 1 + 1, 0, none⟩) (.inl (by show w.heap.size + 1 + 1 < _; omega)) (.slice (some ⟨g, 0, none⟩) M cap)).wide (lo' := w.heap.size) (hi' := (w9.setCell ⟨w.heap.size + 1 + 1, 0, none⟩ (.slice (some ⟨g, 0, none⟩) M cap)).heap.size) (by omega) (by simp [World.setCell] <;> omega))
      have HB9 : Hid (Below w.heap.size w w9) := B1.out.trans (HOZ.out.below.mono (by omega))
      go_wp2_with fail
      refine bodyPost_ret (v := .agg #[.slice (some ⟨g, 0, none⟩) M cap]) (by simp [results, Try.results79, go_sem, r0]) rfl ⟨_, rfl, ?_, ?_⟩
      · rw [HMl.out]; exact Hrow.out
      · exact HB9.out.setCell (by show _ ≤ w.heap.size + 1 + 1; omega) _
    case pos =>
      subst h4
      obtain ⟨x, y, z, hr1⟩ := at_of_lt (L := L) (i := 3) (by omega)
      have hps : Hid (prgS L key num = L.set 3 (key, y + num, y)) := by show _ = _; unfold prgS addNew; rw [if_neg (by rw [hL]; exact hf), if_pos hL, if_neg (by rw [hL]; exact hf), if_pos hL, getD_at hr1]
      have hbz := hvB_iff.1 (HT.out.at_ hr1)
      have hy1 : 1 ≤ y := hbz.2.1.1
      have hy2 : y ≤ 1000000000000 := hbz.2.1.2
      have wb : IntKind.i64.wrap (y + num) = y + num := IntWalk.i64_in _ (by omega)
      obtain ⟨g, cap, he, hOH⟩ := HO3.out.form (by omega)
      simp only [Value.slice.injEq] at he
      obtain ⟨rfl, _, rfl⟩ := he
      obtain ⟨cap, rfl⟩ : ∃ c, c = rc := ⟨_, rfl⟩
      obtain ⟨z0, z1, z2⟩ := hOH.at_ hr1
      have f0 := hOH.frz 9
      have f1 := hOH.frz 10
      have f2 := hOH.frz 11
      have hgl := hOH.lt
      have hW0 := hOH.set3 3 key (y + num) y
      rw [← hps.out] at hW0
      have HW0 := Lib.hid hW0
      have ng0 : g ≠ w.heap.size + 1 := by omega
      have ng1 : g ≠ w.heap.size := by omega
      have e9 : (3 * 3 : Nat) = 9 := rfl
      simp only [Nat.reduceMul, Nat.reduceAdd] at z0 z1 z2 HW0
      clear hr1 hOH hW0 HO3 hbz e9
      go_wp2_with fail
      go_at_call 101
      refine (sort_any g cap 4 (prgS L key num) q1 _ (by omega) (by omega) HW0.out).mono ?_
      rintro e w9 ⟨rfl, Z, hS, hOZ⟩
      have hZ : Z = addOut L key num := sorted_out HT.out key num hS.1 (by have h := hS.2; rw [List.take_of_length_le (Nat.le_of_eq hOZ.len)] at h; exact h)
      subst hZ
      have HOZ := Lib.hid hOZ
      have hMl : (addOut L key num).length = 4 := hOZ.len
      have HMl := Lib.hid hMl
      clear hS hOZ hMl
      have kz0 : w9.cell? ⟨w.heap.size, 0, none⟩ = some (.slice ad 4 cp) := by rw [HOZ.out.below.cell (p := ⟨w.heap.size, 0, none⟩) (by show w.heap.size < _; omega)]; exact HC0.out
      have kz1 : w9.cell? ⟨w.heap.size + 1, 0, none⟩ = some (.int .i64 key) := by rw [HOZ.out.below.cell (p := ⟨w.heap.size + 1, 0, none⟩) (by show w.heap.size + 1 < _; omega)]; exact HC1.out
      have kz2 : w9.cell? ⟨w.heap.size + 1, 1, none⟩ = some (.int .i64 num) := by rw [HOZ.out.below.cell (p := ⟨w.heap.size + 1, 1, none⟩) (by show w.heap.size + 1 < _; omega)]; exact HC2.out
      have kz3 : w9.cell? ⟨w.heap.size + 1 + 1, 0, none⟩ = some (.slice none 0 0) := by rw [HOZ.out.below.cell (p := ⟨w.heap.size + 1 + 1, 0, none⟩) (by show w.heap.size + 1 + 1 < _; omega)]; exact HC3.out
      have jz : w9.frozen? ⟨w.heap.size + 1 + 1, 0, none⟩ = false := by rw [HOZ.out.below.frozen (p := ⟨w.heap.size + 1 + 1, 0, none⟩) (by show w.heap.size + 1 + 1 < _; omega)]; exact HJ.out
      have sz : q1.heap.size ≤ w9.heap.size := HOZ.out.below.size
      have r0 : (w9.setCell ⟨w.heap.size + 1 + 1, 0, none⟩ (.slice (some ⟨g, 0, none⟩) 4 cap)).cell? ⟨w.heap.size + 1 + 1, 0, none⟩ = some (.slice (some ⟨g, 0, none⟩) 4 cap) := World.cell?_setCell_same' _ _ _ (by rw [kz3]; rfl)
      have Hrow := Lib.hid (((HOZ.out.toRow (by omega)).setCell (p := ⟨w.heap.size + 1 + 1, 0, none⟩) (.inl (by show w.heap.size + 1 + 1 < _; omega)) (.slice (some ⟨g, 0, none⟩) 4 cap)).wide (lo' := w.heap.size) (hi' := (w9.setCell ⟨w.heap.size + 1 + 1, 0, none⟩ (.slice (some ⟨g, 0, none⟩) 4 cap)).heap.size) (by omega) (by simp [World.setCell] <;> omega))
      have HB9 : Hid (Below w.heap.size w w9) := B1.out.trans (HOZ.out.below.mono (by omega))
      go_wp2_with fail
      refine bodyPost_ret (v := .agg #[.slice (some ⟨g, 0, none⟩) 4 cap]) (by simp [results, Try.results79, go_sem, r0]) rfl ⟨_, rfl, ?_, ?_⟩
      · rw [HMl.out]; exact Hrow.out
      · exact HB9.out.setCell (by show _ ≤ w.heap.size + 1 + 1; omega) _

end Go.Proofs.Ytophppnllkadoaa
