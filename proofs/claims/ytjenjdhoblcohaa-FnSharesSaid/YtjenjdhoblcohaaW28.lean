/- A trail that goes down in the heap. -/
import Derived.Test.YtjenjdhoblcohaaW27
namespace Go.Proofs.Ytjenjdhoblcohaa
open Go.RowKit


/-- While one goes down: what stands in memory. -/
def SRel (w0 wr : World) (X n : Nat) (F : Nat → TV) (g cap a : Nat) : Prop :=
  ∃ Fr, HSt wr X (.slice (some ⟨g, 0, none⟩) n cap) Fr n ∧ DnOrd leV Fr n a ∧ (∀ x, Mem Fr n x ↔ Mem F n x) ∧ HFr w0 wr X (some g)
/-- best is the least of place a and of those children of a that come before b. -/
def BestOf (Fr : Nat → TV) (n a b best : Nat) : Prop := (best = a ∨ (2 * a + 1 ≤ best ∧ best < b)) ∧ best < n ∧ leV (Fr best) (Fr a) ∧ ∀ i, 2 * a + 1 ≤ i → i < b → i < n → leV (Fr best) (Fr i)
def SinkPost (w0 wr : World) (X n : Nat) (F : Nat → TV) (g cap : Nat) : Prop := ∃ Fr, HSt wr X (.slice (some ⟨g, 0, none⟩) n cap) Fr n ∧ Ord leV Fr n ∧ (∀ x, Mem Fr n x ↔ Mem F n x) ∧ HFr w0 wr X (some g)

theorem BestOf.lt {Fr : Nat → TV} {n a b best : Nat} (h : BestOf Fr n a b best) (hb : 2 * a + 1 ≤ b) (hbn : b < n) (hl : leV (Fr b) (Fr best)) : BestOf Fr n a (b + 1) b :=
  ⟨.inr ⟨hb, Nat.lt_succ_self _⟩, hbn, leV_pre.trans _ _ _ hl h.2.2.1, fun i h1 h2 h3 => by
    by_cases e : i = b
    · subst e; exact leV_pre.refl _
    · exact leV_pre.trans _ _ _ hl (h.2.2.2 i h1 (by omega) h3)⟩
theorem BestOf.ge {Fr : Nat → TV} {n a b best : Nat} (h : BestOf Fr n a b best) (hl : leV (Fr best) (Fr b)) : BestOf Fr n a (b + 1) best :=
  ⟨h.1.imp id fun hh => ⟨hh.1, by omega⟩, h.2.1, h.2.2.1, fun i h1 h2 h3 => by
    by_cases e : i = b
    · subst e; exact hl
    · exact h.2.2.2 i h1 (by omega) h3⟩
theorem BestOf.all {Fr : Nat → TV} {n a b best : Nat} (h : BestOf Fr n a b best) (hb : 2 * a + 2 < b ∨ n ≤ b) : ∀ i, 0 < i → i < n → (i - 1) / 2 = a → leV (Fr best) (Fr i) := fun i h1 h2 h3 => h.2.2.2 i (by omega) (by omega) h2
theorem SRel.node {w w0 wr : World} {X n g : Nat} {F Fr : Nat → TV} {x : TV} (hN : ∀ x, Mem F n x → NAt w x ∧ x.g ≠ X ∧ x.g ≠ g) (hF : HFr w wr X (some g)) (hM : ∀ x, Mem Fr n x ↔ Mem F n x) (hx : Mem Fr n x) (hB : Below wr.heap.size wr w0) : NAt w0 x := by
  obtain ⟨h1, h2, h3⟩ := hN x ((hM x).1 hx)
  exact (h1.fr hF h2 (fun e => h3 (Option.some.inj e).symm)).below hB

set_option maxRecDepth 100000 in
set_option maxHeartbeats 8000000 in
theorem sink_any (X n g cap : Nat) (F : Nat → TV) (w : World) (h : HSt w X (.slice (some ⟨g, 0, none⟩) n cap) F n) (hn0 : 0 < n) (hn : n ≤ 1000) (hO : DnOrd leV F n 0) (hN : ∀ x, Mem F n x → NAt w x ∧ x.g ≠ X ∧ x.g ≠ g) :
    Calls Try.prog 114 #[.pointer (some ⟨X, 0, none⟩), .int .i64 0] w fun e w' => e = .returned (.tuple #[]) ∧ SinkPost w w' X n F g cap := by
  have HN := Lib.hid hN
  have HR0 : Hid (SRel w w X n F g cap 0) := ⟨F, h, hO, fun x => Iff.rfl, HFr.refl _ _ _⟩
  clear h hO hN
  go_enter Try.func114, Try.ntmps114
  go_wp2_with fail
  go_loopw [1, 4, 5] (fun sa _ _ wr => ∃ a : Nat, a < n ∧ sa = .int .i64 (a : Int) ∧ Hid (SRel w wr X n F g cap a)) (fun sa _ _ _ => n - (intOf sa).toNat)
  case atStart => exact ⟨0, hn0, rfl, HR0⟩
  case round =>
    obtain ⟨a, ha, rfl, hR⟩ := hrel
    obtain ⟨Fr, hS, hU, hM, hF⟩ := hR.out
    have k0 := hS.1
    have hXl := hS.2.2.2.1
    have HS := Lib.hid hS
    have HU := Lib.hid hU
    have HM := Lib.hid hM
    have HF := Lib.hid hF
    have q0 : (0 : Int) ≤ (a : Int) := by omega
    have q1 : (a : Int) < (n : Int) := by omega
    have q2 : (a : Int) ≤ 1000 := by omega
    have HB0 : Hid (BestOf Fr n a (2 * a + 1) a) := ⟨.inl rfl, ha, leV_pre.refl _, fun i h1 h2 => by omega⟩
    clear hS hU hM hF hR
    go_wp2_with fail
    go_loopw [4, 5] (fun sbest sb wi => ∃ b best : Nat, 2 * a + 1 ≤ b ∧ b ≤ 2 * a + 3 ∧ sb = .int .i64 (b : Int) ∧ sbest = .int .i64 (best : Int) ∧ Hid (BestOf Fr n a b best) ∧ Hid (Below wr.heap.size wr wi)) (fun _ sb _ => 2 * a + 3 - (intOf sb).toNat)
    case atStart => exact ⟨2 * a + 1, a, by omega, by omega, by go_num, rfl, HB0, Below.refl _ _⟩
    case round =>
      obtain ⟨w0, rfl⟩ : ∃ w0 : World, w0 = wr := ⟨_, rfl⟩
      obtain ⟨b, best, hb1, hb2, rfl, rfl, hB, hBw⟩ := hrel
      have HSw := Lib.hid (HS.out.below hBw.out)
      have k0 := HSw.out.1
      have k1 := HSw.out.2.1
      have hXw := HSw.out.2.2.2.1
      obtain ⟨_, _, hsl, hXg, hgl, hfz, hit⟩ := HSw.out.items hn0
      cases hsl
      have hbn := hB.out.2.1
      have hbest := hB.out.1
      obtain ⟨j0, j1⟩ := hit best hbn
      have p0 : (0 : Int) ≤ (b : Int) := by omega
      have p1 : (0 : Int) ≤ (best : Int) := by omega
      have p2 : (best : Int) < (n : Int) := by omega
      have p3 : (b : Int) ≤ 3000 := by omega
      by_cases h1 : b ≤ 2 * a + 2 ∧ b < n
      · obtain ⟨h1, h2⟩ := h1
        have r1 : (b : Int) ≤ 2 * (a : Int) + 2 := by omega
        have r2 : (b : Int) < (n : Int) := by omega
        obtain ⟨i0, i1⟩ := hit b h2
        have NA : Hid (NAt w0 (Fr b)) := SRel.node HN.out HF.out HM.out ⟨b, h2, rfl⟩ hBw.out
        have NP : Hid (NAt w0 (Fr best)) := SRel.node HN.out HF.out HM.out ⟨best, hbn, rfl⟩ hBw.out
        have la := NA.out.2.1
        have lp := NP.out.2.1
        have Hfi := Lib.hid (And.intro hfz hit)
        clear hfz hit hbest
        by_cases hlt : ltB ((Fr b).c, (Fr b).ns) ((Fr best).c, (Fr best).ns) = true
        · have HBn := Lib.hid (hB.out.lt hb1 h2 (leT_of_lt hlt))
          go_wp2_with fail
          go_region_held3 (fun w' => w'.cell? ⟨X, 0, none⟩ = some (.slice (some ⟨g, 0, none⟩) n cap) ∧ w'.cell? ⟨X, 1, none⟩ = some (.func (.func 95) #[] #[]) ∧ w'.cell? ⟨g, b * 2, none⟩ = some (.int .i64 (Fr b).c) ∧ w'.cell? ⟨g, b * 2 + 1, none⟩ = some (.slice (some ⟨(Fr b).g, 0, none⟩) (Fr b).ns.length (Fr b).cap) ∧ w'.cell? ⟨g, best * 2, none⟩ = some (.int .i64 (Fr best).c) ∧ w'.cell? ⟨g, best * 2 + 1, none⟩ = some (.slice (some ⟨(Fr best).g, 0, none⟩) (Fr best).ns.length (Fr best).cap) ∧ w0.heap.size ≤ w'.heap.size ∧ Below w0.heap.size w0 w') (first | assumption | exact rr6_start k0 k1 i0 i1 j0 j1 | exact rr6_drew (by assumption) | exact rr6_keep (by omega) (by omega) (by omega) (by omega) (by omega) (by omega) (by assumption) (by assumption))
            (first | (go_at_call 95; refine (pref_any (Fr b).c (Fr best).c (Fr b).g (Fr b).cap (Fr best).g (Fr best).cap (Fr b).ns.length (Fr best).ns.length (Fr b).ns (Fr best).ns _ rfl rfl (by omega) (by omega) (NA.out.below (rr6_out (by assumption)).2).2.2.1 (NP.out.below (rr6_out (by assumption)).2).2.2.1 (NA.out.below (rr6_out (by assumption)).2).2.2.2 (NP.out.below (rr6_out (by assumption)).2).2.2.2).mono ?_; rw [hlt]; rintro e w6 ⟨rfl, hb⟩))
          have hE : Below w0.heap.size w0 w6 := (rr6_out (by assumption)).2
          have HB6 : Hid (Below wr.heap.size wr w6) := chain hBw.out hE
          clear hE hB hBw
          go_wp2_with fail
          go_roundw
          case rel => exact ⟨b + 1, b, by omega, by omega, by go_num, rfl, HBn, HB6⟩
          case measure => simp [intOf]; omega
        · rw [Bool.not_eq_true] at hlt
          have HBn := Lib.hid (hB.out.ge hlt)
          go_wp2_with fail
          go_region_held3 (fun w' => w'.cell? ⟨X, 0, none⟩ = some (.slice (some ⟨g, 0, none⟩) n cap) ∧ w'.cell? ⟨X, 1, none⟩ = some (.func (.func 95) #[] #[]) ∧ w'.cell? ⟨g, b * 2, none⟩ = some (.int .i64 (Fr b).c) ∧ w'.cell? ⟨g, b * 2 + 1, none⟩ = some (.slice (some ⟨(Fr b).g, 0, none⟩) (Fr b).ns.length (Fr b).cap) ∧ w'.cell? ⟨g, best * 2, none⟩ = some (.int .i64 (Fr best).c) ∧ w'.cell? ⟨g, best * 2 + 1, none⟩ = some (.slice (some ⟨(Fr best).g, 0, none⟩) (Fr best).ns.length (Fr best).cap) ∧ w0.heap.size ≤ w'.heap.size ∧ Below w0.heap.size w0 w') (first | assumption | exact rr6_start k0 k1 i0 i1 j0 j1 | exact rr6_drew (by assumption) | exact rr6_keep (by omega) (by omega) (by omega) (by omega) (by omega) (by omega) (by assumption) (by assumption))
            (first | (go_at_call 95; refine (pref_any (Fr b).c (Fr best).c (Fr b).g (Fr b).cap (Fr best).g (Fr best).cap (Fr b).ns.length (Fr best).ns.length (Fr b).ns (Fr best).ns _ rfl rfl (by omega) (by omega) (NA.out.below (rr6_out (by assumption)).2).2.2.1 (NP.out.below (rr6_out (by assumption)).2).2.2.1 (NA.out.below (rr6_out (by assumption)).2).2.2.2 (NP.out.below (rr6_out (by assumption)).2).2.2.2).mono ?_; rw [hlt]; rintro e w6 ⟨rfl, hb⟩))
          have hE : Below w0.heap.size w0 w6 := (rr6_out (by assumption)).2
          have HB6 : Hid (Below wr.heap.size wr w6) := chain hBw.out hE
          clear hE hB hBw
          go_wp2_with fail
          go_roundw
          case rel => exact ⟨b + 1, best, by omega, by omega, by go_num, rfl, HBn, HB6⟩
          case measure => simp [intOf]; omega
      · have HA := Lib.hid (hB.out.all (by omega))
        have hcond : (¬ ((b : Int) ≤ 2 * (a : Int) + 2) ∧ decide ((b : Int) ≤ 2 * (a : Int) + 2) = false) ∨ ((b : Int) ≤ 2 * (a : Int) + 2 ∧ ¬ ((b : Int) < (n : Int)) ∧ decide (b < n) = false) := by
          by_cases c1 : b ≤ 2 * a + 2
          · exact .inr ⟨by omega, by omega, decide_eq_false (by omega)⟩
          · exact .inl ⟨by omega, decide_eq_false (by omega)⟩
        have HSB := Lib.hid (HF.out.below hBw.out)
        by_cases hba : best = a
        · have HE : Hid (SinkPost w w0 X n F g cap) := ⟨Fr, HSw.out, dn_done HU.out (fun i g1 g2 g3 => by have := HA.out i g1 g2 g3; rw [hba] at this; exact this), HM.out, HSB.out⟩
          have hbe : ((best : Int) == (a : Int)) = true := by simp [hba]
          clear hba h1 hbest hfz hit
          rcases hcond with ⟨d0, d1⟩ | ⟨d0, d1, d2⟩
          all_goals
            go_wp2_with fail
            exact bodyPost_ret (v := .tuple #[]) (by simp [results, Try.results114, go_sem]) rfl ⟨rfl, HE.out⟩
        · have hbe : ((best : Int) == (a : Int)) = false := by simp; omega
          have hbc : best = 2 * a + 1 ∨ best = 2 * a + 2 := by have := hbest; omega
          have hab : a < best := by omega
          obtain ⟨i0, i1⟩ := hit a ha
          have z0 := hfz (a * 2)
          have z1 := hfz (a * 2 + 1)
          have z2 := hfz (best * 2)
          have z3 := hfz (best * 2 + 1)
          have o0 : ¬ a * 2 = best * 2 := by omega
          have o1 : ¬ a * 2 = best * 2 + 1 := by omega
          have o2 : ¬ a * 2 + 1 = best * 2 := by omega
          have o3 : ¬ a * 2 + 1 = best * 2 + 1 := by omega
          have HSn : Hid (HSt ((((w0.setCell ⟨g, a * 2, none⟩ (.int .i64 (Fr best).c)).setCell ⟨g, a * 2 + 1, none⟩ (.slice (some ⟨(Fr best).g, 0, none⟩) (Fr best).ns.length (Fr best).cap)).setCell ⟨g, best * 2, none⟩ (.int .i64 (Fr a).c)).setCell ⟨g, best * 2 + 1, none⟩ (.slice (some ⟨(Fr a).g, 0, none⟩) (Fr a).ns.length (Fr a).cap)) X (.slice (some ⟨g, 0, none⟩) n cap) (sw Fr a best) n) := by
            have h2 := (HSw.out.put (Fr best) ha).put (Fr a) hbn
            rw [sw_eq Fr (show a ≠ best by omega)]
            exact h2
          have HFn : Hid (HFr w ((((w0.setCell ⟨g, a * 2, none⟩ (.int .i64 (Fr best).c)).setCell ⟨g, a * 2 + 1, none⟩ (.slice (some ⟨(Fr best).g, 0, none⟩) (Fr best).ns.length (Fr best).cap)).setCell ⟨g, best * 2, none⟩ (.int .i64 (Fr a).c)).setCell ⟨g, best * 2 + 1, none⟩ (.slice (some ⟨(Fr a).g, 0, none⟩) (Fr a).ns.length (Fr a).cap)) X (some g)) :=
            (((HSB.out.setCell (.inr (.inl rfl)) _ _).setCell (.inr (.inl rfl)) _ _).setCell (.inr (.inl rfl)) _ _).setCell (.inr (.inl rfl)) _ _
          have HUn : Hid (DnOrd leV (sw Fr a best) n best) := dn_step HU.out hbc hbn hB.out.2.2.1 HA.out
          have HMn : Hid (∀ x, Mem (sw Fr a best) n x ↔ Mem F n x) := fun x => (mem_sw ha hbn x).trans (HM.out x)
          clear h1 hbest hfz hit hba hbc
          rcases hcond with ⟨d0, d1⟩ | ⟨d0, d1, d2⟩
          all_goals
            go_wp2_with fail
            go_region
            go_wp2_with fail
            go_roundw
            case rel => exact ⟨best, hbn, rfl, ⟨sw Fr a best, HSn.out.drew, HUn.out, HMn.out, HFn.out.drew⟩⟩
            case measure => simp [intOf]; omega

end Go.Proofs.Ytjenjdhoblcohaa
