/- A trail laid into the heap. -/
import Derived.Test.YtjenjdhoblcohaaW26
import Derived.Outline
namespace Go.Proofs.Ytjenjdhoblcohaa
open Go.RowKit


theorem tv2_one (t : TV) : ∀ u ∈ tv2 t, u.oneCell' = true := by
  intro u hu
  simp [tv2] at hu
  rcases hu with rfl | rfl <;> rfl
theorem cell_two_new' (w : World) (x y : Value) (T : TypeId) {B : Nat} (hB : B = w.heap.size) (j : Nat) (u : Value) (h : [x, y][j]? = some u) : (w.alloc (.cells #[x, y] T)).cell? ((⟨B, 0, none⟩ : Addr).add j) = some u := by
  subst hB
  rw [add_none]
  rcases j with _ | _ | j
  · simp at h; subst h; simp
  · simp at h; subst h; simp
  · simp at h
theorem HSt.drew {w : World} {X : Nat} {v : Value} {F : Nat → TV} {n : Nat} (h : HSt w X v F n) : HSt w.drew X v F n := h
theorem push_app {w w4 : World} {X n g4 cap4 : Nat} {v : Value} {F : Nat → TV} {t : TV} {o : Obj} (h : HSt w X v F n) (hg : (w.alloc o).grownBy w4 v.ownBlock) (_hat : v.ownBlock = some g4 ∨ g4 = (w.alloc o).heap.size)
    (hown : w4.ownsRow (X + 1) 86 2 (.slice (some ⟨g4, 0, none⟩) (n + 1) cap4) (n + 1) (tcs F n ++ tv2 t)) :
    (∃ u, w4.cell? ⟨X, 0, none⟩ = some u) ∧ w4.frozen? ⟨X, 0, none⟩ = false ∧ HSt (w4.setCell ⟨X, 0, none⟩ (.slice (some ⟨g4, 0, none⟩) (n + 1) cap4)) X (.slice (some ⟨g4, 0, none⟩) (n + 1) cap4) (app F n t) (n + 1) ∧ HFr w (w4.setCell ⟨X, 0, none⟩ (.slice (some ⟨g4, 0, none⟩) (n + 1) cap4)) X v.ownBlock := by
  obtain ⟨h1, h2, h3, h4, h5⟩ := h
  have hlt : X < (w.alloc o).heap.size := by simp; omega
  have hne : some X ≠ v.ownBlock := fun e => by have := (h5.lt X e.symm).1; omega
  have c4 : w4.cell? ⟨X, 0, none⟩ = some v := by rw [hg.cell_far ⟨X, 0, none⟩ hlt hne, old_box h4]; exact h1
  have c5 : w4.cell? ⟨X, 1, none⟩ = some (.func (.func 95) #[] #[]) := by rw [hg.cell_far ⟨X, 1, none⟩ hlt hne, old_box h4]; exact h2
  have f4 : w4.frozen? ⟨X, 0, none⟩ = false := by rw [hg.frozen_far ⟨X, 0, none⟩ hlt hne]; rw [oldFrz h4]; exact h3
  have hs : w.heap.size + 1 ≤ w4.heap.size := by have := hg.size; simpa using this
  have hX4 : X < w4.heap.size := by omega
  refine ⟨⟨_, c4⟩, f4, ⟨World.cell?_setCell_same' _ _ _ (by rw [c4]; rfl), by rw [World.cell?_setCell_other _ _ _ _ (by simp)]; exact c5, by simp [f4], by simpa [World.setCell] using hX4, ?_⟩, ?_⟩
  · have e : tcs (app F n t) (n + 1) = tcs F n ++ tv2 t := by rw [tcs_succ, app_n, tcs_congr (fun i hi => app_o F t (by omega))]
    rw [e]
    exact ownsRow_setCell_below hown (by show X < X + 1; omega) _
  · refine HFr.setCell (w := w) (w' := w4) (g := X) ⟨hg.os, hg.tape, hg.output, by omega, fun b hb hx hr => ?_⟩ (.inl rfl) _ _
    have := hg.block b (by simp; omega) (fun e => hr e.symm)
    rw [this]
    exact ((Below.refl w.heap.size w).alloc (Nat.le_refl _) o).block b hb

/-- Behind the append: what stands in memory. -/
def PSt (w w5 : World) (X : Nat) (v : Value) (F : Nat → TV) (n : Nat) (t : TV) (g4 cap4 : Nat) : Prop :=
  HSt w5 X (.slice (some ⟨g4, 0, none⟩) (n + 1) cap4) (app F n t) (n + 1) ∧ HFr w w5 X v.ownBlock ∧ (v.ownBlock = some g4 ∨ w.heap.size ≤ g4) ∧ ∀ x, Mem (app F n t) (n + 1) x → NAt w5 x ∧ x.g ≠ X ∧ x.g ≠ g4
theorem PSt.start {w w5 : World} {X n g4 cap4 : Nat} {v : Value} {F : Nat → TV} {t : TV} {o o2 : Obj} (_hX : X ≠ w.heap.size) (hA : v.ownBlock = some g4 ∨ g4 = ((w.alloc o).alloc o2).drew.heap.size) (hS : HSt w5 X (.slice (some ⟨g4, 0, none⟩) (n + 1) cap4) (app F n t) (n + 1)) (hF : HFr (w.alloc o).drew w5 X v.ownBlock)
    (hN : ∀ i, i < n → NAt w (F i) ∧ (F i).g ≠ X ∧ v.ownBlock ≠ some (F i).g) (ht : NAt w t) (htX : t.g ≠ X) (htv : v.ownBlock ≠ some t.g) : PSt w w5 X v F n t g4 cap4 := by
  have hA' : v.ownBlock = some g4 ∨ w.heap.size ≤ g4 := by
    rcases hA with h | h
    · exact .inl h
    · right; rw [h]; simp; omega
  have hF' : HFr w w5 X v.ownBlock := HFr.trans (r := v.ownBlock) ((HFr.refl w X v.ownBlock).below ((Below.refl _ _).alloc (Nat.le_refl _) o)) hF (fun _ _ e => e)
  refine ⟨hS, hF', hA', fun x hx => ?_⟩
  have key : NAt w x ∧ x.g ≠ X ∧ v.ownBlock ≠ some x.g := by
    rcases (mem_app x).1 hx with ⟨i, hi, rfl⟩ | rfl
    · exact hN i hi
    · exact ⟨ht, htX, htv⟩
  refine ⟨key.1.fr hF' key.2.1 key.2.2, key.2.1, fun e => ?_⟩
  rcases hA' with h | h
  · exact key.2.2 (by rw [h, e])
  · have := key.1.2.2.1; omega
/-- While the new one goes up. -/
def PRel (w5 wr : World) (X n : Nat) (F : Nat → TV) (t : TV) (g4 cap4 a : Nat) : Prop :=
  ∃ Fr, HSt wr X (.slice (some ⟨g4, 0, none⟩) (n + 1) cap4) Fr (n + 1) ∧ UpOrd leV Fr (n + 1) a ∧ (∀ x, Mem Fr (n + 1) x ↔ Mem (app F n t) (n + 1) x) ∧ HFr w5 wr X (some g4)
def PushPost (w w' : World) (X : Nat) (v : Value) (F : Nat → TV) (n : Nat) (t : TV) : Prop :=
  ∃ v' F', HSt w' X v' F' (n + 1) ∧ Ord leV F' (n + 1) ∧ (∀ x, Mem F' (n + 1) x ↔ Mem F n x ∨ x = t) ∧ HFr w w' X v.ownBlock ∧ (v'.ownBlock = v.ownBlock ∨ ∃ g, v'.ownBlock = some g ∧ w.heap.size ≤ g)
theorem PRel.fin {w w5 wr : World} {X n g4 cap4 a : Nat} {v : Value} {F Fr : Nat → TV} {t : TV} (h1 : HSt wr X (.slice (some ⟨g4, 0, none⟩) (n + 1) cap4) Fr (n + 1)) (h2 : UpOrd leV Fr (n + 1) a) (h3 : ∀ x, Mem Fr (n + 1) x ↔ Mem (app F n t) (n + 1) x) (h4 : HFr w5 wr X (some g4)) (hP : PSt w w5 X v F n t g4 cap4) (hd : a = 0 ∨ leV (Fr ((a - 1) / 2)) (Fr a)) : PushPost w wr X v F n t := by
  refine ⟨_, Fr, h1, up_done h2 hd, fun x => (h3 x).trans (mem_app x), hP.2.1.trans h4 (fun b hb e => ?_), ?_⟩
  · rcases hP.2.2.1 with h | h
    · rw [h]; exact e
    · cases e; omega
  · rcases hP.2.2.1 with h | h
    · exact .inl (by rw [h]; rfl)
    · exact .inr ⟨g4, rfl, h⟩
theorem PRel.post {w w5 wr : World} {X n g4 cap4 a : Nat} {v : Value} {F : Nat → TV} {t : TV} (h : PRel w5 wr X n F t g4 cap4 a) (hP : PSt w w5 X v F n t g4 cap4) (h0 : a = 0) : PushPost w wr X v F n t := by
  obtain ⟨Fr, h1, h2, h3, h4⟩ := h
  exact PRel.fin h1 h2 h3 h4 hP (.inl h0)
theorem PSt.node {w w5 wr : World} {X n g4 cap4 : Nat} {v : Value} {F : Nat → TV} {t x : TV} (hP : PSt w w5 X v F n t g4 cap4) (hF : HFr w5 wr X (some g4)) (hx : Mem (app F n t) (n + 1) x) : NAt wr x ∧ x.g ≠ X ∧ x.g ≠ g4 := by
  obtain ⟨h1, h2, h3⟩ := hP.2.2.2 x hx
  exact ⟨h1.fr hF h2 (fun e => h3 (Option.some.inj e).symm), h2, h3⟩
theorem sw_eq {α : Type} (f : Nat → α) {i j : Nat} (h : i ≠ j) : sw f i j = fun q => if q = j then f i else if q = i then f j else f q := by
  funext q
  unfold sw
  by_cases h1 : q = i
  · subst h1; rw [if_pos rfl, if_neg h, if_pos rfl]
  · rw [if_neg h1]
    by_cases h2 : q = j
    · rw [if_pos h2, if_pos h2]
    · rw [if_neg h2, if_neg h2, if_neg h1]

set_option maxRecDepth 100000 in
set_option maxHeartbeats 8000000 in
theorem push_any (X n : Nat) (v : Value) (F : Nat → TV) (t : TV) (w : World) (h : HSt w X v F n) (hn : n ≤ 1000) (hO : Ord leV F n) (hN : ∀ i, i < n → NAt w (F i) ∧ (F i).g ≠ X ∧ v.ownBlock ≠ some (F i).g) (ht : NAt w t) (htX : t.g ≠ X) (htv : v.ownBlock ≠ some t.g) :
    Calls Try.prog 96 #[.pointer (some ⟨X, 0, none⟩), .agg #[.int .i64 t.c, .slice (some ⟨t.g, 0, none⟩) t.ns.length t.cap]] w fun e w' => e = .returned (.tuple #[]) ∧ PushPost w w' X v F n t := by
  have H0 := Lib.hid h
  have hX := h.2.2.2.1
  obtain ⟨i74, hi, hz0, hz1, hz2⟩ := info_parts Try.info86
  have I := Lib.hid (And.intro hi (And.intro hz0 (And.intro hz1 hz2)))
  have hBx : Below w.heap.size w (w.alloc (.cells #[.int .i64 t.c, .slice (some ⟨t.g, 0, none⟩) t.ns.length t.cap] 86)) := (Below.refl _ _).alloc (Nat.le_refl _) _
  have H1 := Lib.hid (h.below hBx)
  have k0 := H1.out.1
  obtain ⟨va, vc, hv⟩ := own_slice h.2.2.2.2
  have f0 := H1.out.2.2.1
  have Hv := Lib.hid hv
  rw [hv] at k0
  have HN := Lib.hid hN
  have HO := Lib.hid hO
  have Ht := Lib.hid ht
  have hXw : X ≠ w.heap.size := by omega
  have HOw : Hid ((w.alloc (.cells #[.int .i64 t.c, .slice (some ⟨t.g, 0, none⟩) t.ns.length t.cap] 86)).ownsRow (X + 1) 86 2 (.slice va n vc) n (tcs F n)) := by show World.ownsRow _ _ _ _ _ _ _; rw [← hv]; exact H1.out.2.2.2.2
  have HS1 : Hid (HSt (w.alloc (.cells #[.int .i64 t.c, .slice (some ⟨t.g, 0, none⟩) t.ns.length t.cap] 86)) X (.slice va n vc) F n) := by show HSt _ _ _ _ _; rw [← hv]; exact H1.out
  clear h hi hz0 hz1 hz2 hBx hv hN hO ht
  go_enter Try.func96, Try.ntmps96
  go_wp2_with fail
  go_region_law (first
    | (refine step_append_lies _ rfl _ _ 83 rfl (X + 1) 86 i74 (.agg #[.int .i64 0, .slice none 0 0]) 2 32 Try.underlying83 I.out.1 I.out.2.1 I.out.2.2.1 I.out.2.2.2 rfl (by decide) (.slice va n vc) n (tcs F n) rfl (HOw.out.drew.alloc _) ⟨w.heap.size + 1, 0, none⟩ 1 1 (tv2 t) rfl rfl (fun j u hj => cell_two_new' _ _ _ 86 (by simp) j u hj) (tv2_one t) (by decide) (by unfold maxLen; omega) (by omega) (by simp; omega) _ rfl ?_; intro g4 cap4 w4 hown4 hgrow4 hat4 hlt4; obtain ⟨⟨uu, hc4⟩, hf4, hS4, hF4⟩ := push_app (t := t) (HS1.out.drew) hgrow4 hat4 hown4; have HS4 := Lib.hid hS4; have HF4 := Lib.hid hF4; have HA4 := Lib.hid hat4; clear hown4 hgrow4 hat4 hS4 hF4))
  all_goals
    obtain ⟨w5, hw5⟩ : ∃ w5, w5 = w4.setCell ⟨X, 0, none⟩ (.slice (some ⟨g4, 0, none⟩) (n + 1) cap4) := ⟨_, rfl⟩
    have HP : Hid (PSt w w5 X v F n t g4 cap4) := by
      show PSt _ _ _ _ _ _ _ _ _
      rw [hw5]
      exact PSt.start hXw (by rw [Hv.out]; exact HA4.out) HS4.out (by rw [Hv.out]; exact HF4.out) HN.out Ht.out htX htv
    rw [← hw5]
    have HR0 : Hid (PRel w5 w5 X n F t g4 cap4 n) := by
      refine ⟨app F n t, HP.out.1, up_start t HO.out, fun x => Iff.rfl, HFr.refl _ _ _⟩
    have c5 := HP.out.1.1
    clear hw5 HS4 HF4 HA4 hc4 hf4 hlt4
    go_wp2_with fail
    go_loopw [4, 5] (fun sa sp wr => ∃ a : Nat, a < n + 1 ∧ sa = .int .i64 (a : Int) ∧ Hid (PRel w5 wr X n F t g4 cap4 a)) (fun sa _ _ => (intOf sa).toNat)
    case atStart => exact ⟨n, by omega, by go_num, HR0⟩
    case round =>
      obtain ⟨a, ha, rfl, hR⟩ := hrel
      by_cases h0 : a = 0
      · have HE : Hid (PushPost w wr X v F n t) := hR.out.post HP.out h0
        subst h0
        clear hR
        go_wp2_with fail
        go_end0
        exact ⟨rfl, HE.out⟩
      · obtain ⟨m, hm⟩ : ∃ m, a = m + 1 := ⟨a - 1, by omega⟩
        obtain ⟨p, hp⟩ : ∃ p, p = m / 2 := ⟨_, rfl⟩
        have hpa : p < a := by omega
        have q0 : (0 : Int) < (a : Int) := by omega
        have e1 : ((a : Int) - 1) = (m : Int) := by omega
        have e2 : (m : Int) / 2 = (p : Int) := by omega
        have q1 : (0 : Int) ≤ (m : Int) := by omega
        have q3 : (m : Int) ≤ 2000 := by omega
        have q4 : (a : Int) < (n : Int) + 1 := by omega
        have q5 : (0 : Int) ≤ (a : Int) := by omega
        have q8 : a ≤ n := by omega
        have q9 : (a : Int) ≤ (n : Int) := by omega
        have qa : p ≤ n := by omega
        have qb : (p : Int) ≤ (n : Int) := by omega
        have qc : p < n + 1 := by omega
        have q6 : (p : Int) < (n : Int) + 1 := by omega
        have q7 : (0 : Int) ≤ (p : Int) := by omega
        have Hmp := Lib.hid (And.intro hm hp)
        clear hm hp
        obtain ⟨Fr, hS, hU, hM, hF⟩ := hR.out
        have k0 := hS.1
        have k1 := hS.2.1
        obtain ⟨_, _, hsl, hXg, hgl, hfz, hit⟩ := hS.items (by omega)
        cases hsl
        obtain ⟨i0, i1⟩ := hit a ha
        obtain ⟨j0, j1⟩ := hit p (by omega)
        have NA : Hid (NAt wr (Fr a)) := (HP.out.node hF ((hM _).1 ⟨a, ha, rfl⟩)).1
        have NP : Hid (NAt wr (Fr p)) := (HP.out.node hF ((hM _).1 ⟨p, by omega, rfl⟩)).1
        have la := NA.out.2.1
        have lp := NP.out.2.1
        have hXl := hS.2.2.2.1
        have HS := Lib.hid hS
        have HU := Lib.hid hU
        have HM := Lib.hid hM
        have HF := Lib.hid hF
        have Hfz := Lib.hid hfz
        clear hS hU hM hF hit hfz hR
        by_cases hlt : ltB ((Fr a).c, (Fr a).ns) ((Fr p).c, (Fr p).ns) = true
        · go_wp2_with fail
          go_region_held3 (fun w' => w'.cell? ⟨X, 0, none⟩ = some (.slice (some ⟨g4, 0, none⟩) (n + 1) cap4) ∧ w'.cell? ⟨X, 1, none⟩ = some (.func (.func 95) #[] #[]) ∧ w'.cell? ⟨g4, a * 2, none⟩ = some (.int .i64 (Fr a).c) ∧ w'.cell? ⟨g4, a * 2 + 1, none⟩ = some (.slice (some ⟨(Fr a).g, 0, none⟩) (Fr a).ns.length (Fr a).cap) ∧ w'.cell? ⟨g4, p * 2, none⟩ = some (.int .i64 (Fr p).c) ∧ w'.cell? ⟨g4, p * 2 + 1, none⟩ = some (.slice (some ⟨(Fr p).g, 0, none⟩) (Fr p).ns.length (Fr p).cap) ∧ wr.heap.size ≤ w'.heap.size ∧ Below wr.heap.size wr w') (first | assumption | exact rr6_start k0 k1 i0 i1 j0 j1 | exact rr6_drew (by assumption) | exact rr6_keep (by omega) (by omega) (by omega) (by omega) (by omega) (by omega) (by assumption) (by assumption))
            (first | (go_at_call 95; refine (pref_any (Fr a).c (Fr p).c (Fr a).g (Fr a).cap (Fr p).g (Fr p).cap (Fr a).ns.length (Fr p).ns.length (Fr a).ns (Fr p).ns _ rfl rfl (by omega) (by omega) (NA.out.below (rr6_out (by assumption)).2).2.2.1 (NP.out.below (rr6_out (by assumption)).2).2.2.1 (NA.out.below (rr6_out (by assumption)).2).2.2.2 (NP.out.below (rr6_out (by assumption)).2).2.2.2).mono ?_; rw [hlt]; rintro e w6 ⟨rfl, hb⟩))
          have hE : wr.heap.size ≤ w6.heap.size ∧ Below wr.heap.size wr w6 := rr6_out (by assumption)
          have HS6 := Lib.hid (HS.out.below hE.2)
          have HF6 := Lib.hid (HF.out.below hE.2)
          obtain ⟨_, _, hsl, _, hgl6, hfz6, hit6⟩ := HS6.out.items (by omega)
          cases hsl
          have x0 := HS6.out.1
          obtain ⟨y0, y1⟩ := hit6 a ha
          obtain ⟨y2, y3⟩ := hit6 p (by omega)
          have z0 := hfz6 (a * 2)
          have z1 := hfz6 (a * 2 + 1)
          have z2 := hfz6 (p * 2)
          have z3 := hfz6 (p * 2 + 1)
          have o0 : ¬ a * 2 = p * 2 := by omega
          have o1 : ¬ a * 2 = p * 2 + 1 := by omega
          have o2 : ¬ a * 2 + 1 = p * 2 := by omega
          have o3 : ¬ a * 2 + 1 = p * 2 + 1 := by omega
          have HSn : Hid (HSt ((((w6.setCell ⟨g4, a * 2, none⟩ (.int .i64 (Fr p).c)).setCell ⟨g4, a * 2 + 1, none⟩ (.slice (some ⟨(Fr p).g, 0, none⟩) (Fr p).ns.length (Fr p).cap)).setCell ⟨g4, p * 2, none⟩ (.int .i64 (Fr a).c)).setCell ⟨g4, p * 2 + 1, none⟩ (.slice (some ⟨(Fr a).g, 0, none⟩) (Fr a).ns.length (Fr a).cap)) X (.slice (some ⟨g4, 0, none⟩) (n + 1) cap4) (sw Fr a p) (n + 1)) := by
            have h2 := (HS6.out.put (Fr p) ha).put (Fr a) (show p < n + 1 by omega)
            rw [sw_eq Fr (show a ≠ p by omega)]
            exact h2
          have HFn : Hid (HFr w5 ((((w6.setCell ⟨g4, a * 2, none⟩ (.int .i64 (Fr p).c)).setCell ⟨g4, a * 2 + 1, none⟩ (.slice (some ⟨(Fr p).g, 0, none⟩) (Fr p).ns.length (Fr p).cap)).setCell ⟨g4, p * 2, none⟩ (.int .i64 (Fr a).c)).setCell ⟨g4, p * 2 + 1, none⟩ (.slice (some ⟨(Fr a).g, 0, none⟩) (Fr a).ns.length (Fr a).cap)) X (some g4)) :=
            (((HF6.out.setCell (.inr (.inl rfl)) _ _).setCell (.inr (.inl rfl)) _ _).setCell (.inr (.inl rfl)) _ _).setCell (.inr (.inl rfl)) _ _
          have HUn : Hid (UpOrd leV (sw Fr a p) (n + 1) p) := by
            have hpp : p = (a - 1) / 2 := by have h1 := Hmp.out.1; have h2 := Hmp.out.2; omega
            show UpOrd _ _ _ _
            rw [hpp] at hlt ⊢
            exact up_step leV_pre HU.out (by omega) ha (leT_of_lt hlt)
          have HMn : Hid (∀ x, Mem (sw Fr a p) (n + 1) x ↔ Mem (app F n t) (n + 1) x) := fun x => (mem_sw ha (show p < n + 1 by omega) x).trans (HM.out x)
          clear hE hfz6 hit6 k0 k1 i0 i1 j0 j1
          go_wp2_with fail
          go_region
          go_wp2_with fail
          go_roundw
          case rel => exact ⟨p, by omega, rfl, ⟨sw Fr a p, HSn.out.drew, HUn.out, HMn.out, HFn.out.drew⟩⟩
          case measure => simp [intOf]; omega
        · rw [Bool.not_eq_true] at hlt
          go_wp2_with fail
          go_region_held3 (fun w' => w'.cell? ⟨X, 0, none⟩ = some (.slice (some ⟨g4, 0, none⟩) (n + 1) cap4) ∧ w'.cell? ⟨X, 1, none⟩ = some (.func (.func 95) #[] #[]) ∧ w'.cell? ⟨g4, a * 2, none⟩ = some (.int .i64 (Fr a).c) ∧ w'.cell? ⟨g4, a * 2 + 1, none⟩ = some (.slice (some ⟨(Fr a).g, 0, none⟩) (Fr a).ns.length (Fr a).cap) ∧ w'.cell? ⟨g4, p * 2, none⟩ = some (.int .i64 (Fr p).c) ∧ w'.cell? ⟨g4, p * 2 + 1, none⟩ = some (.slice (some ⟨(Fr p).g, 0, none⟩) (Fr p).ns.length (Fr p).cap) ∧ wr.heap.size ≤ w'.heap.size ∧ Below wr.heap.size wr w') (first | assumption | exact rr6_start k0 k1 i0 i1 j0 j1 | exact rr6_drew (by assumption) | exact rr6_keep (by omega) (by omega) (by omega) (by omega) (by omega) (by omega) (by assumption) (by assumption))
            (first | (go_at_call 95; refine (pref_any (Fr a).c (Fr p).c (Fr a).g (Fr a).cap (Fr p).g (Fr p).cap (Fr a).ns.length (Fr p).ns.length (Fr a).ns (Fr p).ns _ rfl rfl (by omega) (by omega) (NA.out.below (rr6_out (by assumption)).2).2.2.1 (NP.out.below (rr6_out (by assumption)).2).2.2.1 (NA.out.below (rr6_out (by assumption)).2).2.2.2 (NP.out.below (rr6_out (by assumption)).2).2.2.2).mono ?_; rw [hlt]; rintro e w6 ⟨rfl, hb⟩))
          have hE : wr.heap.size ≤ w6.heap.size ∧ Below wr.heap.size wr w6 := rr6_out (by assumption)
          have HE : Hid (PushPost w w6 X v F n t) := by
            refine PRel.fin (HS.out.below hE.2) HU.out HM.out (HF.out.below hE.2) HP.out (.inr ?_)
            have hpp : p = (a - 1) / 2 := by have h1 := Hmp.out.1; have h2 := Hmp.out.2; omega
            rw [← hpp]
            exact hlt
          clear hE
          go_wp2_with fail
          exact bodyPost_ret (v := .tuple #[]) (by simp [results, Try.results96, go_sem]) rfl ⟨rfl, HE.out⟩

end Go.Proofs.Ytjenjdhoblcohaa
