/- The search: its own loops. -/
import Derived.Test.YtjenjdhoblcohaaW30
import Derived.Test.YtjenjdhoblcohaaW6
import Derived.Test.YtjenjdhoblcohaaTl
import Derived.Test.YtjenjdhoblcohaaW23
import Derived.Test.YtjenjdhoblcohaaW25
import Derived.Test.YtjenjdhoblcohaaW27
import Derived.Test.YtjenjdhoblcohaaW29
namespace Go.Proofs.Ytjenjdhoblcohaa
open Go.RowKit


theorem row_mono {w : World} {b b' k n : Nat} {e : TypeId} {v : Value} {xs : List Value} (h : w.ownsRow b e k v n xs) (hb : b' ≤ b) : w.ownsRow b' e k v n xs := by
  obtain ⟨h1, h2⟩ := h
  refine ⟨h1, ?_⟩
  rcases h2 with h2 | ⟨g, cap, cur, rfl, h3, h4⟩
  · exact .inl h2
  · exact .inr ⟨g, cap, cur, rfl, by omega, h4⟩
theorem last_at {t : TV} {l : Nat} (h : t.ns.length = l + 1) : t.ns[l]? = some (lastN t.key) := by
  have hl : l < t.ns.length := by omega
  show _ = some (t.ns.getLastD 0)
  rw [List.getElem?_eq_getElem hl, List.getLastD_eq_getLast?, List.getLast?_eq_getElem?]
  simp [h]
theorem NAt.set {w : World} {t : TV} {A q : Nat} {u : Value} (h : NAt w t) (hne : t.g ≠ A) : NAt (w.setCell ⟨A, q, none⟩ u) t :=
  ⟨h.1, h.2.1, by simpa [World.setCell] using h.2.2.1, ⟨fun i z hz => by rw [World.cell?_of_block (w := w) (a := ⟨t.g, i, none⟩) (Below.heap_setCell _ _ _ _ hne)]; exact h.2.2.2.at_ i z hz, fun i => by rw [World.frozen?_setCell]; exact h.2.2.2.fz i⟩⟩
/-- How many a slice holds. -/
def slen : Value → Nat
  | .slice _ n _ => n
  | _ => 0
/-- How many the heap holds. -/
def hlen (w : World) (X : Nat) : Nat := match w.cell? ⟨X, 0, none⟩ with
  | some v => slen v
  | none => 0
theorem run_store_fn (w : World) (a : Addr) : (store a (.func (.func 95) #[] #[])).run Try.prog w = stored Try.prog w a (.func (.func 95) #[] #[]) .plain := run_store Try.prog w a _ _ rfl
theorem rowT_size (L : List Ed) (x : Int) (hx : 0 ≤ x ∧ x < 10) : (rowT L x).size = 10 := by
  unfold rowT
  rw [Array.size_extract, show (tabOf L).size = 100 by rw [tabOf, tabA_size]]
  omega
theorem rowT_lit (L : List Ed) (x : Int) (hx : 0 ≤ x ∧ x < 10) : (#[.int .i64 (cst L x 0), .int .i64 (cst L x 1), .int .i64 (cst L x 2), .int .i64 (cst L x 3), .int .i64 (cst L x 4), .int .i64 (cst L x 5), .int .i64 (cst L x 6), .int .i64 (cst L x 7), .int .i64 (cst L x 8), .int .i64 (cst L x 9)] : Array Value) = rowT L x := by
  apply Array.ext
  · rw [rowT_size L x hx]; rfl
  · intro i h1 h2
    have h3 : i < 10 := h1
    have h4 := rowT_at L x (i : Int) hx ⟨by omega, by omega⟩
    rw [Int.toNat_natCast, Array.getElem?_eq_getElem h2] at h4
    have h5 := Option.some.inj h4
    rw [h5]
    have : i = 0 ∨ i = 1 ∨ i = 2 ∨ i = 3 ∨ i = 4 ∨ i = 5 ∨ i = 6 ∨ i = 7 ∨ i = 8 ∨ i = 9 := by omega
    rcases this with rfl | rfl | rfl | rfl | rfl | rfl | rfl | rfl | rfl | rfl <;> rfl
/-- What holds at the head of the inner rounds: R is the box of the trail taken. -/
structure IRel (w wr : World) (L : List Ed) (s : Int) (A T X : Nat) (vt vh : Value) (P : List TV) (m : TV) (H : Tr → Prop) (R : Nat) (F : Nat → TV) (n y : Nat) : Prop where
  ist : ISt w wr L s A T X vt vh P m H F n y
  box0 : wr.cell? ⟨R, 0, none⟩ = some (.int .i64 m.c)
  box1 : wr.cell? ⟨R, 1, none⟩ = some (.slice (some ⟨m.g, 0, none⟩) m.ns.length m.cap)
  lt : R < wr.heap.size
  ne : R ≠ X ∧ vh.ownBlock ≠ some R
theorem MSt.push2 {w wr w2 : World} {L : List Ed} {A T X n : Nat} {vt vh : Value} {Q P : List TV} {F : Nat → TV} {t : TV} (h : MSt w wr L A T X vt vh Q P F n) (hp : PushPost wr w2 X vh F n t) (ht : NAt wr t) (htX : X < t.g) (htv : vh.ownBlock ≠ some t.g) (htt : vt.ownBlock ≠ some t.g) :
    ∃ vh' F', MSt w w2 L A T X vt vh' Q P F' (n + 1) ∧ (∀ x, Mem F' (n + 1) x ↔ Mem F n x ∨ x = t) ∧ (∀ q, q < wr.heap.size → vh.ownBlock ≠ some q → vh'.ownBlock ≠ some q) ∧ HFr wr w2 X vh.ownBlock := by
  obtain ⟨vh', F', p1, p2, p3, p5, p6⟩ := hp
  have o := h.ord1
  have hr2 : ∀ q, vh.ownBlock = some q → X < q := fun q e => (h.heap.2.2.2.2.lt q e).1
  have far : ∀ q, q < wr.heap.size → vh.ownBlock ≠ some q → vh'.ownBlock ≠ some q := fun q hq hne e => by
    rcases p6 with p6 | ⟨g, p6, hg⟩
    · exact hne (p6 ▸ e)
    · rw [p6] at e; cases e; omega
  refine ⟨vh', F', ⟨h.below.fr p5 (by omega) (fun q e => by have := hr2 q e; omega) h.below.size h.below.size, o, ?_, ?_, p1, p2, row_fr h.row p5 (Nat.lt_succ_self _) (fun q e => h.apart q e), fun q e => far q (h.row.lt q e).2 (h.apart q e), fun x hx => ?_⟩, p3, far, p5⟩
  · rw [p5.2.2.2.2 T h.ltT (by omega) (fun e => by have := hr2 _ e; omega)]; exact h.table
  · rw [p5.2.2.2.2 A h.ltA (by omega) (fun e => by have := hr2 _ e; omega)]; exact h.marks
  · have hx' : NAt wr x ∧ X < x.g ∧ vh.ownBlock ≠ some x.g ∧ vt.ownBlock ≠ some x.g := by
      rcases hx with hx | hx
      · rcases (p3 x).1 hx with hx | rfl
        · exact h.nodes x (.inl hx)
        · exact ⟨ht, htX, htv, htt⟩
      · exact h.nodes x (.inr hx)
    obtain ⟨h1, h2, h3, h4⟩ := hx'
    exact ⟨h1.fr p5 (by omega) h3, h2, far _ h1.2.2.1 h3, h4⟩
set_option maxRecDepth 100000 in
set_option maxHeartbeats 2400000 in
theorem trails_any (N s : Int) (lo hi n : Nat) (v : Value) (L : List Ed) (w : World) (hG : gok N L = true) (hL : L.length = n) (hr : Row 3 w lo hi v n (flat L)) (hh : hi ≤ w.heap.size) (hs : 0 ≤ s ∧ s < N) :
    Calls Try.prog 72 #[.agg #[.int .i64 N, v], .int .i64 s] w fun e w' => ∃ P vt, e = .returned vt ∧ Found L s (P.map TV.key) ∧ P.length ≤ 10 ∧ w'.ownsRow w.heap.size 86 2 vt P.length (pcs P) ∧ (∀ x ∈ P, NAt w' x ∧ w.heap.size ≤ x.g) ∧ Below w.heap.size w w' := by
  have HR := Lib.hid hr
  have HG := Lib.hid hG
  have HL := Lib.hid hL
  have hN1 := (gok_parts hG).1
  have hN2 := (gok_parts hG).2.1
  obtain ⟨ad, cp, rfl, _, hc⟩ := hr.opened
  obtain ⟨i74, hi, hz0, hz1, hz2⟩ := info_parts Try.info86
  have I := Lib.hid (And.intro hi (And.intro hz0 (And.intro hz1 hz2)))
  clear hr hc hi hz0 hz1 hz2
  go_enter Try.func72, Try.ntmps72
  go_wp2_with fail
  go_at_call 75
  refine (costs_any N lo hi n _ L _ hG hL (HR.out.below (B := w.heap.size) (by go_grown) (by omega)) (by simp; omega)).mono ?_
  rintro e v1 ⟨rfl, hb1⟩
  have HA1 : Hid (v1.heap[w.heap.size + 1]? = some (.cells (rchA []) 118 (0, 0))) := by
    show _ = _
    rw [hb1.block (w.heap.size + 1) (by simp)]
    rw [show w.heap.size + 1 = (w.alloc (.cells #[.int .i64 N, .slice ad n cp] 29)).heap.size by simp]
    exact heap_alloc_new _ _
  have sz1 : w.heap.size + 2 ≤ v1.heap.size := by have hh := hb1.size; simp at hh; omega
  have st1 : Below w.heap.size w v1 := Below.trans (by go_grown) (hb1.mono (by simp <;> omega))
  have c1_0 : v1.cell? ⟨w.heap.size, 0, none⟩ = some (.int .i64 N) := by rw [(bcell hb1).1 _ _ (by simp <;> omega), old_box (by simp <;> omega)]; first | (rw [new_at (by simp)]; rfl) | simp
  have c1_1 : v1.cell? ⟨w.heap.size, 1, none⟩ = some (.slice ad n cp) := by rw [(bcell hb1).1 _ _ (by simp <;> omega), old_box (by simp <;> omega)]; first | (rw [new_at (by simp)]; rfl) | simp
  have c1_2 : v1.cell? ⟨w.heap.size + 1, 0, none⟩ = some (.bool false) := by rw [(bcell hb1).1 _ _ (by simp)]; first | (rw [new_at (by simp)]; rfl) | simp
  have c1_3 : v1.cell? ⟨w.heap.size + 1, 1, none⟩ = some (.bool false) := by rw [(bcell hb1).1 _ _ (by simp)]; first | (rw [new_at (by simp)]; rfl) | simp
  have c1_4 : v1.cell? ⟨w.heap.size + 1, 2, none⟩ = some (.bool false) := by rw [(bcell hb1).1 _ _ (by simp)]; first | (rw [new_at (by simp)]; rfl) | simp
  have c1_5 : v1.cell? ⟨w.heap.size + 1, 3, none⟩ = some (.bool false) := by rw [(bcell hb1).1 _ _ (by simp)]; first | (rw [new_at (by simp)]; rfl) | simp
  have c1_6 : v1.cell? ⟨w.heap.size + 1, 4, none⟩ = some (.bool false) := by rw [(bcell hb1).1 _ _ (by simp)]; first | (rw [new_at (by simp)]; rfl) | simp
  have c1_7 : v1.cell? ⟨w.heap.size + 1, 5, none⟩ = some (.bool false) := by rw [(bcell hb1).1 _ _ (by simp)]; first | (rw [new_at (by simp)]; rfl) | simp
  have c1_8 : v1.cell? ⟨w.heap.size + 1, 6, none⟩ = some (.bool false) := by rw [(bcell hb1).1 _ _ (by simp)]; first | (rw [new_at (by simp)]; rfl) | simp
  have c1_9 : v1.cell? ⟨w.heap.size + 1, 7, none⟩ = some (.bool false) := by rw [(bcell hb1).1 _ _ (by simp)]; first | (rw [new_at (by simp)]; rfl) | simp
  have c1_10 : v1.cell? ⟨w.heap.size + 1, 8, none⟩ = some (.bool false) := by rw [(bcell hb1).1 _ _ (by simp)]; first | (rw [new_at (by simp)]; rfl) | simp
  have c1_11 : v1.cell? ⟨w.heap.size + 1, 9, none⟩ = some (.bool false) := by rw [(bcell hb1).1 _ _ (by simp)]; first | (rw [new_at (by simp)]; rfl) | simp
  have B1 : Hid (Below w.heap.size w v1) := st1
  have R1_0 : Hid (Row 3 v1 (lo) (hi) (.slice ad n cp) n (flat L)) := HR.out.below st1 (by omega)
  have d1_0 : w.heap.size < v1.heap.size := by omega
  have e1_0 : w.heap.size ≠ v1.heap.size := by omega
  have d1_1 : w.heap.size + 1 < v1.heap.size := by omega
  have e1_1 : w.heap.size + 1 ≠ v1.heap.size := by omega
  clear st1 HR hb1
  clear c1_0 c1_1 c1_2 c1_3 c1_4 c1_5 c1_6 c1_7 c1_8 c1_9 c1_10 c1_11
  have hfn := run_store_fn
  go_wp2_with (first | refine wpList_store_rowTo rfl 93 _ _ rfl rfl v1.heap.size (tabOf L) rfl rfl 93 Try.zeroCells93 (heap_alloc_new _ _) (by rw [Try.size93, tabOf, tabA_size]) (by rw [tabA_zero, tabOf, tabA_size, tabA_size]) (tabA_one _) ?_)
  obtain ⟨W, hW⟩ : ∃ W, W = ((v1.alloc (.cells Try.zeroCells93 93)).setRow v1.heap.size (tabOf L)) := ⟨_, rfl⟩
  obtain ⟨hbW, hsW, htW⟩ := tab_laid v1 L hW
  try simp only [setRow_size, World.size_alloc]
  rw [← hW, ← hsW]
  have HsW := Lib.hid hsW
  have HbW : Hid (Below w.heap.size w W) := B1.out.trans (hbW.mono (by omega))
  have HtW := Lib.hid htW
  have HaW : Hid (W.heap[w.heap.size + 1]? = some (.cells (rchA []) 118 (0, 0))) := by show _ = _; rw [hbW.block _ (by omega)]; exact HA1.out
  clear hW hsW hbW htW HA1 B1
  obtain ⟨w3, hw3⟩ : ∃ w3, w3 = ((W.alloc (.cells #[.slice none 0 0, .func (.func 95) #[] #[]] 122)).alloc (.cells #[.int .i64 s] 3)) := ⟨_, rfl⟩
  have sW := HsW.out
  have s3 : w3.heap.size = W.heap.size + 1 + 1 := by rw [hw3]; simp
  have sw : w.heap.size ≤ v1.heap.size := by omega
  have b3 : Below W.heap.size W w3 := by rw [hw3]; exact ((Below.refl _ _).alloc (Nat.le_refl _) _).alloc (by simp) _
  have hx0 : w3.cell? ⟨W.heap.size, 0, none⟩ = some (.slice none 0 0) := by rw [hw3, old_box (by simp), newAt rfl]; rfl
  have hx1 : w3.cell? ⟨W.heap.size, 1, none⟩ = some (.func (.func 95) #[] #[]) := by rw [hw3, old_box (by simp), newAt rfl]; rfl
  have hx2 : w3.frozen? ⟨W.heap.size, 0, none⟩ = false := by rw [hw3, oldFrz (by simp), newFrz rfl]
  have hx3 : w3.cell? ⟨W.heap.size + 1, 0, none⟩ = some (.int .i64 s) := by rw [hw3, newAt (by simp)]; rfl
  obtain ⟨t0, ht0⟩ : ∃ t0 : TV, t0 = ⟨0, W.heap.size + 1, 1, [s]⟩ := ⟨_, rfl⟩
  have N0 : Hid (NAt w3 t0) := by
    rw [ht0]
    exact ⟨by simp, by simp, by show W.heap.size + 1 < _; omega, ⟨fun q z hz => by
      rcases q with _ | q
      · simp at hz; subst hz; exact hx3
      · simp at hz, fun q => by show w3.frozen? ⟨W.heap.size + 1, q, none⟩ = false; rw [hw3, newFrz (by simp)]⟩⟩
  have M0 : Hid (MSt w w3 L (w.heap.size + 1) v1.heap.size W.heap.size (.slice none 0 0) (.slice none 0 0) [] [] (fun _ => t0) 0) :=
    MSt.zero (HbW.out.trans (b3.mono (by omega))) ⟨by omega, by omega, by omega⟩ (by rw [b3.block _ (by omega)]; exact HtW.out) (by rw [b3.block _ (by omega)]; exact HaW.out) (HSt.empty hx0 hx1 hx2 (by omega))
  rw [← hw3]
  clear hw3
  go_at_call 96
  refine (show Calls Try.prog 96 #[.pointer (some ⟨W.heap.size, 0, none⟩), .agg #[.int .i64 0, .slice (some ⟨W.heap.size + 1, 0, none⟩) 1 1]] w3 (fun e w' => e = .returned (.tuple #[]) ∧ PushPost w3 w' W.heap.size (.slice none 0 0) (fun _ => t0) 0 t0) by
    have := push_any W.heap.size 0 (.slice none 0 0) (fun _ => t0) t0 w3 M0.out.heap (by omega) M0.out.hord (fun i hi => absurd hi (Nat.not_lt_zero _)) N0.out (by rw [ht0]; show W.heap.size + 1 ≠ _; omega) (by simp [Value.ownBlock])
    rw [ht0] at this ⊢
    exact this).mono ?_
  rintro e w4 ⟨rfl, hP⟩
  obtain ⟨vh, F, hM, hmem⟩ := M0.out.push hP N0.out (by rw [ht0]; show _ < W.heap.size + 1; omega) (by simp [Value.ownBlock]) (by simp [Value.ownBlock])
  have HO : Hid (OSt w w4 L s (w.heap.size + 1) v1.heap.size W.heap.size (.slice none 0 0) vh [] F 1) := OSt.start hM (fun x => (hmem x).trans ⟨fun h => h.resolve_left (fun ⟨_, hi, _⟩ => absurd hi (Nat.not_lt_zero _)), .inr⟩) (by rw [ht0]; rfl) (by rw [ht0]; rfl)
  obtain ⟨X, hX⟩ : ∃ X, X = W.heap.size := ⟨_, rfl⟩
  obtain ⟨T, hT⟩ : ∃ T, T = v1.heap.size := ⟨_, rfl⟩
  obtain ⟨A, hA⟩ : ∃ A, A = w.heap.size + 1 := ⟨_, rfl⟩
  rw [← hX, ← hT, ← hA] at HO
  rw [← hX, ← hT, ← hA]
  have n0 : w.heap.size ≤ A ∧ A < T ∧ T < X := ⟨by omega, by omega, by omega⟩
  have HXT := Lib.hid (And.intro hX (And.intro hT hA))
  clear hX hT hA hM hmem hP M0 N0 hx0 hx1 hx2 hx3 ht0 s3 b3 sW sw HsW HbW HtW HaW sz1 R1_0 d1_0 e1_0 d1_1 e1_1
  go_wp2_with fail
  go_loopw [5] (fun vt wr => ∃ P F n vh, Hid (OSt w wr L s A T X vt vh P F n)) (fun vt wr => (10 - slen vt) * 1000 + hlen wr X)
  case atStart => exact ⟨[], F, 1, vh, HO⟩
  case round =>
    obtain ⟨P, F, n, vh, hR⟩ := hrel
    have k0 := hR.out.mem.heap.1
    obtain ⟨va, vc, hv⟩ := own_slice hR.out.mem.heap.2.2.2.2
    subst hv
    have HRr := Lib.hid hR
    by_cases h0 : n = 0
    · subst h0
      go_wp2_with fail
      exact bodyPost_ret (v := u5) (by simp [results, Try.results72, go_sem]) rfl ⟨P, u5, rfl, hR.out.found HG.out, by have := hR.out.count.1; omega, row_mono hR.out.mem.row (by omega), fun x hx => by
        obtain ⟨h1, h2, _⟩ := hR.out.mem.nodes x (.inr hx)
        exact ⟨h1, by omega⟩, hR.out.mem.below⟩
    · obtain ⟨m, hm⟩ : ∃ m, n = m + 1 := ⟨n - 1, by omega⟩
      subst hm
      obtain ⟨g, cap, hsl, hXg, hgl, hfz, hit⟩ := hR.out.mem.heap.items (by omega)
      cases hsl
      have cn := hR.out.count
      have hPl : P.length ≤ 10 := by omega
      have hm1 : m ≤ 1000 := by omega
      have q0 : (0 : Int) < (m : Int) + 1 := by omega
      have HI := Lib.hid (hR.out.search.tr _ ⟨F 0, ⟨0, by omega, rfl⟩, rfl⟩)
      obtain ⟨j0, j1, j2, ⟨j3, j4⟩, _⟩ := HI.out.bounds HG.out hs
      obtain ⟨q, hq⟩ : ∃ q : Nat, lastN (F 0).key = (q : Int) := ⟨(lastN (F 0).key).toNat, by omega⟩
      have hq10 : q < 10 := by omega
      have Hq := Lib.hid hq
      have J := Lib.hid (And.intro j0 (And.intro j1 j2))
      clear hfz hit j0 j1 j2 j3 j4 hq
      go_wp2_with fail
      go_at_call 97
      refine (pop_any X m g vc F wr HRr.out.out.mem.heap hm1 HRr.out.out.mem.hord (fun x hx => by
        obtain ⟨h1, h2, h3, _⟩ := HRr.out.out.mem.nodes x (.inl hx)
        exact ⟨h1, by omega, fun e => h3 (by rw [e]; rfl)⟩)).mono ?_
      rintro e w5 ⟨rfl, hP⟩
      obtain ⟨F', hM, p3, p4, N0, g0, g1, g2⟩ := HRr.out.out.mem.pop hP
      have HM5 := Lib.hid hM
      have HN5 := Lib.hid N0
      have HP3 := Lib.hid (And.intro p3 p4)
      clear hM N0 p3 p4 hP k0
      go_wp2_with fail
      obtain ⟨l, hl⟩ : ∃ l, (F 0).ns.length = l + 1 := ⟨(F 0).ns.length - 1, by have := J.out.1; show _ = _; have e : (F 0).key.2 = (F 0).ns := rfl; rw [e] at this; omega⟩
      have hz : w5.cell? ⟨(F 0).g, l, none⟩ = some (.int .i64 (q : Int)) := by rw [← Hq.out]; exact HN5.out.2.2.2 l _ (last_at hl)
      have hg5 := HN5.out.2.2.1
      have hl5 := HN5.out.2.1
      go_at_call 73
      refine (show Calls Try.prog 73 #[.agg #[.int .i64 (F 0).c, .slice (some ⟨(F 0).g, 0, none⟩) (F 0).ns.length (F 0).cap]] (w5.alloc (.cells #[.int .i64 (F 0).c, .slice (some ⟨(F 0).g, 0, none⟩) (F 0).ns.length (F 0).cap] 86)) (fun e w' => e = .returned (.int .i64 (q : Int)) ∧ Below (w5.alloc (.cells #[.int .i64 (F 0).c, .slice (some ⟨(F 0).g, 0, none⟩) (F 0).ns.length (F 0).cap] 86)).heap.size (w5.alloc (.cells #[.int .i64 (F 0).c, .slice (some ⟨(F 0).g, 0, none⟩) (F 0).ns.length (F 0).cap] 86)) w') by
        rw [hl]
        exact end_any (F 0).c q (F 0).g l (F 0).cap _ (by omega) (by simp; omega) (by rw [old_box hg5]; exact hz)).mono ?_
      rintro e w6 ⟨rfl, hb⟩
      have s6 : w5.heap.size + 1 ≤ w6.heap.size := by have := hb.size; simpa using this
      have hb6 : Below w5.heap.size w5 w6 := ((Below.refl _ _).alloc (Nat.le_refl _) _).trans (hb.mono (by simp))
      have x0 : w6.cell? ⟨w5.heap.size, 0, none⟩ = some (.int .i64 (F 0).c) := by rw [hb.cell (p := ⟨w5.heap.size, 0, none⟩) (by simp), newAt rfl]; rfl
      have x1 : w6.cell? ⟨w5.heap.size, 1, none⟩ = some (.slice (some ⟨(F 0).g, 0, none⟩) (F 0).ns.length (F 0).cap) := by rw [hb.cell (p := ⟨w5.heap.size, 1, none⟩) (by simp), newAt rfl]; rfl
      have HM6 := Lib.hid (HM5.out.grow hb6)
      have HN6 := Lib.hid (HN5.out.below hb6)
      have cA := HM6.out.mark hq10
      have qz : (0 : Int) ≤ (q : Int) := by omega
      have qt : (q : Int) < 10 := by omega
      have hA6 := HM6.out.ltA
      have hA5 := HM5.out.ltA
      have hX6 := HM6.out.ltX
      have HRu : Hid (∀ k, u5.ownBlock = some k → k < w5.heap.size) := fun k h => (HM5.out.row.lt k h).2
      have hX5 := HM5.out.ltX
      have HRg : Hid (g < w5.heap.size) := (HM5.out.heap.2.2.2.2.lt g rfl).2
      clear hb hb6 hz hg5 hl5 HM5 HN5
      by_cases hr : rchB P q = true
      · rw [hr] at cA
        have HE : Hid (OSt w w6 L s A T X u5 (.slice (some ⟨g, 0, none⟩) m vc) P F' m) := HRr.out.out.skip HM6.out HP3.out.1 HP3.out.2 (by
          obtain ⟨t, ht, e⟩ := rchB_iff.1 hr
          exact ⟨t, ht, by rw [e, Hq.out]⟩)
        have hm0 : hlen wr X = m + 1 := by unfold hlen; rw [HRr.out.out.mem.heap.1]; rfl
        have hm6 : hlen w6 X = m := by unfold hlen; rw [HM6.out.heap.1]; rfl
        go_wp2_with fail
        go_roundw
        case rel => exact ⟨P, F', m, _, HE⟩
        case measure => rw [hm0, hm6]; omega
      · have hr : rchB P q = false := by simpa using hr
        rw [hr] at cA
        have fA : w6.frozen? ⟨A, q, none⟩ = false := by
          have h' := HM6.out.marks
          simp [World.frozen?, h']
        have HI7 := Lib.hid hr
        have hRA : ¬ w5.heap.size = A := by omega
        have hAR : ¬ A = w5.heap.size := by omega
        clear hr
        obtain ⟨ua, uc, hu⟩ := own_slice HM6.out.row
        subst hu
        have HM7 : Hid (MSt w (w6.setCell ⟨A, q, none⟩ (.bool true)) L A T X (.slice ua P.length uc) (.slice (some ⟨g, 0, none⟩) m vc) (P ++ [F 0]) P F' m) := HM6.out.set Hq.out
        have htv : tv2 (F 0) = [.int .i64 (F 0).c, .slice (some ⟨(F 0).g, 0, none⟩) (l + 1) (F 0).cap] := by unfold tv2; rw [hl]
        have Htv := Lib.hid htv
        have sB : (w6.setCell ⟨A, q, none⟩ (.bool true)).heap.size = w6.heap.size := by simp [World.setCell]
        have HsB := Lib.hid sB
        clear htv sB
        go_wp2_with (at_builtin; refine wpList_append_lies _ rfl _ _ 83 rfl (X + 1) 86 i74 (.agg #[.int .i64 0, .slice none 0 0]) 2 32 Try.underlying83 I.out.1 I.out.2.1 I.out.2.2.1 I.out.2.2.2 rfl (by decide) _ P.length (pcs P) rfl (HM7.out.row.alloc _) ⟨w6.heap.size, 0, none⟩ 1 1 [.int .i64 (F 0).c, .slice (some ⟨(F 0).g, 0, none⟩) (l + 1) (F 0).cap] rfl rfl (fun j u hj => cell_two_new' _ _ _ 86 HsB.out.symm j u hj) (by rw [← Htv.out]; exact tv2_one _) (by decide) ?c1 ?c2 ?c3 _ rfl ?_)
        case c1 => unfold maxLen; omega
        case c2 => omega
        case c3 => first | (simp [World.setCell]; done) | (simp [World.setCell]; omega)
        intro g4 cap4 w4 hown4 hgrow4 hat4 hlt4
        have HM8 : Hid (MSt w w4 L A T X (.slice (some ⟨g4, 0, none⟩) (P.length + 1) cap4) (.slice (some ⟨g, 0, none⟩) m vc) (P ++ [F 0]) (P ++ [F 0]) F' m) :=
          (HM7.out.grow ((Below.refl _ _).alloc (Nat.le_refl _) (.cells #[.int .i64 (F 0).c, .slice (some ⟨(F 0).g, 0, none⟩) (l + 1) (F 0).cap] 86))).take hgrow4 ⟨(HN6.out.set (show (F 0).g ≠ A by omega)).below ((Below.refl _ _).alloc (Nat.le_refl _) _), g0, by intro e; exact g1 (Option.some.inj e), g2⟩ (by rcases hat4 with h | h; exact .inl h.symm; exact .inr ⟨g4, rfl, by simp [World.setCell]; omega⟩) (by rw [Htv.out]; exact hown4)
        have HJ : Hid (ISt w w4 L s A T X (.slice (some ⟨g4, 0, none⟩) (P.length + 1) cap4) (.slice (some ⟨g, 0, none⟩) m vc) P (F 0) (fun k => ∃ x, Mem F (m + 1) x ∧ x.key = k) F' m 0) := HRr.out.out.inner HM8.out HP3.out.1 HP3.out.2 hq10 Hq.out HI7.out
        have hR6 : w5.heap.size < w6.heap.size := by omega
        have zz : ∀ o u, w6.cell? ⟨w5.heap.size, o, none⟩ = some u → w4.cell? ⟨w5.heap.size, o, none⟩ = some u := fun o u h => by
          rw [hgrow4.cell_far ⟨w5.heap.size, o, none⟩ (by simp [World.setCell]; omega) (fun e => absurd (HRu.out _ e.symm) (Nat.lt_irrefl _)), old_box (by simp [World.setCell]; omega), World.cell?_setCell_other _ _ _ _ (by simp <;> omega)]
          exact h
        have z0 := zz 0 _ x0
        have z1 := zz 1 _ x1
        have rT : ∀ y : Nat, y < 10 → w4.cell? ⟨T, q * 10 + y, none⟩ = some (.int .i64 (cst L (q : Int) (y : Int))) := fun y hy => by
          have := tab_cell (x := (q : Int)) (y := (y : Int)) HM8.out.table ⟨qz, qt⟩ ⟨by omega, by omega⟩
          simpa using this
        have t0 : w4.cell? ⟨T, q * 10, none⟩ = some (.int .i64 (cst L (q : Int) 0)) := rT 0 (by omega)
        have t1 : w4.cell? ⟨T, q * 10 + 1, none⟩ = some (.int .i64 (cst L (q : Int) 1)) := rT 1 (by omega)
        have t2 : w4.cell? ⟨T, q * 10 + 2, none⟩ = some (.int .i64 (cst L (q : Int) 2)) := rT 2 (by omega)
        have t3 : w4.cell? ⟨T, q * 10 + 3, none⟩ = some (.int .i64 (cst L (q : Int) 3)) := rT 3 (by omega)
        have t4 : w4.cell? ⟨T, q * 10 + 4, none⟩ = some (.int .i64 (cst L (q : Int) 4)) := rT 4 (by omega)
        have t5 : w4.cell? ⟨T, q * 10 + 5, none⟩ = some (.int .i64 (cst L (q : Int) 5)) := rT 5 (by omega)
        have t6 : w4.cell? ⟨T, q * 10 + 6, none⟩ = some (.int .i64 (cst L (q : Int) 6)) := rT 6 (by omega)
        have t7 : w4.cell? ⟨T, q * 10 + 7, none⟩ = some (.int .i64 (cst L (q : Int) 7)) := rT 7 (by omega)
        have t8 : w4.cell? ⟨T, q * 10 + 8, none⟩ = some (.int .i64 (cst L (q : Int) 8)) := rT 8 (by omega)
        have t9 : w4.cell? ⟨T, q * 10 + 9, none⟩ = some (.int .i64 (cst L (q : Int) 9)) := rT 9 (by omega)
        have hT4 := HM8.out.ltT
        have hs4 : w6.heap.size ≤ w4.heap.size := by have := hgrow4.size; simp [World.setCell] at this; omega
        clear zz rT hgrow4 hown4 hat4 hlt4 x0 x1 cA fA HM7
        go_wp2_with fail
        rw [rowT_lit L (q : Int) ⟨qz, qt⟩]
        obtain ⟨R, hRR⟩ : ∃ R, R = w5.heap.size := ⟨_, rfl⟩
        rw [← hRR] at z0 z1
        rw [← hRR]
        have HK : Hid (IRel w w4 L s A T X (.slice (some ⟨g4, 0, none⟩) (P.length + 1) cap4) (.slice (some ⟨g, 0, none⟩) m vc) P (F 0) (fun k => ∃ x, Mem F (m + 1) x ∧ x.key = k) R F' m 0) :=
          ⟨HJ.out, z0, z1, by omega, by omega, fun e => by
            have e2 : g = R := Option.some.inj e
            have := HRg.out
            omega⟩
        have hXw : X < w4.heap.size := by omega
        have hm0 : hlen wr X = m + 1 := by unfold hlen; rw [HRr.out.out.mem.heap.1]; rfl
        clear hRR t0 t1 t2 t3 t4 t5 t6 t7 t8 t9 z0 z1 HJ HM8 HM6 HN6
        go_loopw [39] (fun i wr => ∃ y n vh F2, y ≤ 10 ∧ i = .int .i64 ((y : Nat) : Int) ∧ Hid (IRel w wr L s A T X (.slice (some ⟨g4, 0, none⟩) (P.length + 1) cap4) vh P (F 0) (fun k => ∃ x, Mem F (m + 1) x ∧ x.key = k) R F2 n y)) (fun i _ => 10 - (intOf i).toNat)
        case atStart => exact ⟨0, m, _, F', by omega, rfl, HK⟩
        case round =>
          obtain ⟨y, n2, vh, F2, hy, rfl, hI⟩ := hrel
          by_cases hy10 : y < 10
          · have yz : (0 : Int) ≤ (y : Int) := by omega
            have yt : (y : Int) < 10 := by omega
            have hix := index66 L (q : Int) (y : Int) ⟨qz, qt⟩ ⟨yz, yt⟩
            have cM := hI.out.ist.mem.mark hy10
            have hA2 := hI.out.ist.mem.ltA
            have hkl : lastN (F 0).key = (q : Int) := Hq.out
            by_cases hc : cst L (q : Int) (y : Int) = 1000000
            · have hce : (cst L (q : Int) (y : Int) != 1000000) = false := by simp [hc]
              have HE : Hid (IRel w wr L s A T X (.slice (some ⟨g4, 0, none⟩) (P.length + 1) cap4) vh P (F 0) (fun k => ∃ x, Mem F (m + 1) x ∧ x.key = k) R F2 n2 (y + 1)) := ⟨hI.out.ist.pass hI.out.ist.mem (.inl (by rw [hkl]; exact hc)), hI.out.box0, hI.out.box1, hI.out.lt, hI.out.ne⟩
              clear hc hkl
              go_wp2_with fail
              go_roundw
              case rel => exact ⟨y + 1, n2, vh, F2, by omega, by go_num, HE⟩
              case measure => simp [intOf]; omega
            · have hce : (cst L (q : Int) (y : Int) != 1000000) = true := by simp [hc]
              have HcF := Lib.hid hc
              by_cases hm : rchB (P ++ [F 0]) y = true
              · rw [hm] at cM
                have HE : Hid (IRel w wr L s A T X (.slice (some ⟨g4, 0, none⟩) (P.length + 1) cap4) vh P (F 0) (fun k => ∃ x, Mem F (m + 1) x ∧ x.key = k) R F2 n2 (y + 1)) := ⟨hI.out.ist.pass hI.out.ist.mem (.inr hm), hI.out.box0, hI.out.box1, hI.out.lt, hI.out.ne⟩
                clear hc hkl hm
                go_wp2_with fail
                go_roundw
                case rel => exact ⟨y + 1, n2, vh, F2, by omega, by go_num, HE⟩
                case measure => simp [intOf]; omega
              · have hm : rchB (P ++ [F 0]) y = false := by simpa using hm
                rw [hm] at cM
                have nF := hI.out.ist.mem.nodes (F 0) (.inr (by simp))
                have hcb := cst_bound HG.out (q : Int) (y : Int)
                have hlen1 := hI.out.ist.lens.2 (F 0) (by simp)
                have cnt := hI.out.ist.count
                have hc0 : 0 ≤ (F 0).c := J.out.2.1
                have hc1 : (F 0).c ≤ 1000000000 := by
                  have h1 := J.out.2.2
                  have h2 : (F 0).key.2 = (F 0).ns := rfl
                  have h3 : (F 0).key.1 = (F 0).c := rfl
                  rw [h2, h3] at h1
                  omega
                have NF := Lib.hid nF.1
                have z0 := hI.out.box0
                have z1 := hI.out.box1
                have zl := hI.out.lt
                have hvX := nF.2.2.1
                have hl0 := NF.out.1
                clear hc hm nF
                go_wp2_with fail
                go_at_call 98
                refine (extend_any (F 0).c (y : Int) (cst L (q : Int) (y : Int)) (F 0).g (F 0).cap (l + 1) (F 0).ns _ (by omega) (by have := NF.out.2.1; omega) hl NF.out.2.2.1 hc0 hc1 (by omega) hcb.2 NF.out.2.2.2).mono ?_
                rintro e w8 ⟨g8, cap8, rfl, h81, h82, h83, hb8⟩
                obtain ⟨t8, ht8⟩ : ∃ t8 : TV, t8 = ⟨(F 0).c + cst L (q : Int) (y : Int), g8, cap8, (F 0).ns ++ [(y : Int)]⟩ := ⟨_, rfl⟩
                have hl8 : t8.ns.length = l + 1 + 1 := by rw [ht8]; simp [hl]
                have N8 : Hid (NAt w8 t8) := ⟨by omega, by omega, by rw [ht8]; exact h82, by rw [ht8]; exact h83⟩
                have M8 := Lib.hid (hI.out.ist.mem.grow hb8)
                have s8 := hb8.size
                have hX8 : X < t8.g := by rw [ht8]; show X < g8; have := hI.out.ist.mem.ltX; omega
                have hlt : ∀ k, vh.ownBlock = some k → k < wr.heap.size := fun k h => (hI.out.ist.mem.heap.2.2.2.2.lt k h).2
                have hlt2 : ∀ k, (Value.slice (some ⟨g4, 0, none⟩) (P.length + 1) cap4).ownBlock = some k → k < wr.heap.size := fun k h => (hI.out.ist.mem.row.lt k h).2
                have hv8 : vh.ownBlock ≠ some t8.g := fun e => by have := hlt _ e; rw [ht8] at this; have h' : g8 < wr.heap.size := this; omega
                have hv9 : (Value.slice (some ⟨g4, 0, none⟩) (P.length + 1) cap4).ownBlock ≠ some t8.g := fun e => by have := hlt2 _ e; rw [ht8] at this; have h' : g8 < wr.heap.size := this; omega
                have b80 : w8.cell? ⟨R, 0, none⟩ = some (.int .i64 (F 0).c) := by rw [hb8.cell (p := ⟨R, 0, none⟩) hI.out.lt]; exact hI.out.box0
                have b81 : w8.cell? ⟨R, 1, none⟩ = some (.slice (some ⟨(F 0).g, 0, none⟩) (F 0).ns.length (F 0).cap) := by rw [hb8.cell (p := ⟨R, 1, none⟩) hI.out.lt]; exact hI.out.box1
                have B8 := Lib.hid (And.intro b80 b81)
                have H8 := Lib.hid (And.intro hX8 (And.intro hv8 hv9))
                have hRw := hI.out.lt
                clear h81 h82 h83 hb8 hlt hlt2 hX8 hv8 hv9 b80 b81
                go_wp2_with fail
                go_at_call 96
                refine (show Calls Try.prog 96 #[.pointer (some ⟨X, 0, none⟩), .agg #[.int .i64 ((F 0).c + cst L (q : Int) (y : Int)), .slice (some ⟨g8, 0, none⟩) (l + 1 + 1) cap8]] w8 (fun e w' => e = .returned (.tuple #[]) ∧ PushPost w8 w' X vh F2 n2 t8) by
                  have := push_any X n2 vh F2 t8 w8 M8.out.heap (by omega) M8.out.hord (fun i hi => by
                    obtain ⟨h1, h2, h3, _⟩ := M8.out.nodes (F2 i) (.inl ⟨i, hi, rfl⟩)
                    exact ⟨h1, by omega, h3⟩) N8.out (by have := H8.out.1; omega) H8.out.2.1
                  rw [hl8] at this
                  rw [ht8] at this ⊢
                  exact this).mono ?_
                rintro e w9 ⟨rfl, hP⟩
                obtain ⟨vh9, F9, hM9, hmem9, hfar9, hfr9⟩ := M8.out.push2 hP N8.out H8.out.1 H8.out.2.1 H8.out.2.2
                have HE : Hid (IRel w w9 L s A T X (.slice (some ⟨g4, 0, none⟩) (P.length + 1) cap4) vh9 P (F 0) (fun k => ∃ x, Mem F (m + 1) x ∧ x.key = k) R F9 (n2 + 1) (y + 1)) := ⟨hI.out.ist.push hM9 hmem9 (by rw [ht8]; show ((F 0).c + cst L (q : Int) (y : Int), (F 0).ns ++ [(y : Int)]) = ((F 0).c + cst L (lastN (F 0).key) (y : Int), _); rw [hkl]; rfl) (by rw [hl8, hl]) (by rw [hkl]; exact HcF.out), by
                  rw [hfr9.cell (by omega) hI.out.ne.1 hI.out.ne.2]; exact B8.out.1, by
                  rw [hfr9.cell (by omega) hI.out.ne.1 hI.out.ne.2]; exact B8.out.2, by
                  have := hfr9.2.2.2.1; omega, hI.out.ne.1, hfar9 _ (by omega) hI.out.ne.2⟩
                clear hP hM9 hmem9 hfar9 hfr9
                go_wp2_with fail
                go_roundw
                case rel => exact ⟨y + 1, n2 + 1, vh9, F9, by omega, by go_num, HE⟩
                case measure => simp [intOf]; omega
          · obtain rfl : y = 10 := by omega
            have HE : Hid (OSt w wr L s A T X (.slice (some ⟨g4, 0, none⟩) (P.length + 1) cap4) vh (P ++ [F 0]) F2 n2) := hI.out.ist.fin HG.out (fun x y h => by have := (cst_near HG.out h).2.1; omega)
            have cnt := hI.out.ist.count
            have hn9 : hlen wr X = n2 := by
              have h1 := hI.out.ist.mem.heap
              have h2 : ∃ a c, vh = .slice a n2 c := own_slice h1.2.2.2.2
              obtain ⟨a, c, h2⟩ := h2
              unfold hlen
              rw [h1.1, h2]
              rfl
            go_wp2_with fail
            go_roundw
            case rel => exact ⟨P ++ [F 0], F2, n2, vh, HE⟩
            case measure =>
              rw [hn9, hm0]
              show (10 - (P.length + 1)) * 1000 + n2 < (10 - P.length) * 1000 + (m + 1)
              omega

end Go.Proofs.Ytjenjdhoblcohaa
