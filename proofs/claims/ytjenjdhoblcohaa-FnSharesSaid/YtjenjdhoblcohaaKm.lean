/- Sets of nodes in memory: maps.Copy, the sorted nodes. -/
import Derived.Shelf.SlMaps.Copy
import Derived.Shelf.Sort.Plain
import Derived.Shelf.Slices.In.SortNone
import Derived.Test.YtjenjdhoblcohaaRows
import Derived.Lib.SlMapMerge
import Derived.Test.YtjenjdhoblcohaaMf
import Derived.Maps.OwnIn
import Derived.Test.YtjenjdhoblcohaaOi
namespace Go.Proofs.Ytjenjdhoblcohaa
open Go.RowKit Go.Maps Go.Sort Go.Shelf
open Go.RowKit Go.Maps Go.WideShapes
open Go.ChangeMaps (mem_insert_iff)

def Try.copy82_ren : Go.Shelf.Ren := ⟨fun | 5 => 100 | n => n, fun | 23 => 99 | 24 => 99 | 26 => 3 | 27 => 4 | 0 => 0 | 4 => 4 | n => n, fun | n => n⟩
theorem Try.copy82 : Go.Proofs.SlLaysX.n5 Try.prog Try.copy82_ren := {
  mixed := by kernel_rfl
  f5 := ⟨Try.f100.name, by decide, Try.func100.trans (congrArg some (by kernel_rfl))⟩
  t0 := Try.underlying0
  a0 := Try.isAgg0
  z0 := Try.sizeOf0
  v0 := Try.zeroValue0
  t4 := Try.underlying4
  a4 := Try.isAgg4
  z4 := Try.sizeOf4
  v4 := Try.zeroValue4
  t23 := Try.underlying99
  a23 := Try.isAgg99
  z23 := Try.sizeOf99
  v23 := Try.zeroValue99
  t24 := Try.underlying99
  a24 := Try.isAgg99
  z24 := Try.sizeOf99
  v24 := Try.zeroValue99
  a26 := Try.isAgg3
  z26 := Try.sizeOf3
  a27 := Try.isAgg4
  z27 := Try.sizeOf4 }
def Try.sort83_ren : Go.Shelf.Ren := ⟨fun | 189 => 101 | 125 => 116 | 257 => 115 | 128 => 129 | 129 => 130 | 294 => 120 | 295 => 121 | 296 => 122 | 297 => 123 | 298 => 124 | 299 => 125 | 216 => 126 | 300 => 127 | 301 => 128 | 328 => 134 | 329 => 135 | 330 => 136 | 331 => 137 | 332 => 138 | 215 => 91 | 343 => 139 | n => n, fun | 28 => 33 | 3 => 3 | 46 => 142 | 0 => 0 | 51 => 156 | 53 => 158 | 4 => 4 | 183 => 150 | 182 => 149 | 131 => 153 | 5 => 5 | 9 => 9 | 218 => 163 | 222 => 167 | 228 => 169 | 229 => 170 | n => n, fun | n => n⟩
theorem Try.sort83 : Go.Proofs.Lays.n189 Try.prog Try.sort83_ren := {
  mixed := by kernel_rfl
  f125 := Try.func116.trans (congrArg some (by kernel_rfl))
  f128 := Try.func129.trans (congrArg some (by kernel_rfl))
  f129 := Try.func130.trans (congrArg some (by kernel_rfl))
  f189 := Try.func101.trans (congrArg some (by kernel_rfl))
  f215 := Try.func91.trans (congrArg some (by kernel_rfl))
  f216 := Try.func126.trans (congrArg some (by kernel_rfl))
  f257 := Try.func115.trans (congrArg some (by kernel_rfl))
  f294 := Try.func120.trans (congrArg some (by kernel_rfl))
  f295 := Try.func121.trans (congrArg some (by kernel_rfl))
  f296 := Try.func122.trans (congrArg some (by kernel_rfl))
  f297 := Try.func123.trans (congrArg some (by kernel_rfl))
  f298 := Try.func124.trans (congrArg some (by kernel_rfl))
  f299 := Try.func125.trans (congrArg some (by kernel_rfl))
  f300 := Try.func127.trans (congrArg some (by kernel_rfl))
  f301 := Try.func128.trans (congrArg some (by kernel_rfl))
  f328 := Try.func134.trans (congrArg some (by kernel_rfl))
  f329 := Try.func135.trans (congrArg some (by kernel_rfl))
  f330 := Try.func136.trans (congrArg some (by kernel_rfl))
  f331 := Try.func137.trans (congrArg some (by kernel_rfl))
  f332 := Try.func138.trans (congrArg some (by kernel_rfl))
  f343 := Try.func139.trans (congrArg some (by kernel_rfl))
  t0 := Try.underlying0
  a0 := Try.isAgg0
  z0 := Try.sizeOf0
  v0 := Try.zeroValue0
  t3 := Try.underlying3
  a3 := Try.isAgg3
  z3 := Try.sizeOf3
  v3 := Try.zeroValue3
  t4 := Try.underlying4
  a4 := Try.isAgg4
  z4 := Try.sizeOf4
  v4 := Try.zeroValue4
  t5 := Try.underlying5
  a5 := Try.isAgg5
  z5 := Try.sizeOf5
  v5 := Try.zeroValue5
  t9 := Try.underlying9
  a9 := Try.isAgg9
  z9 := Try.sizeOf9
  v9 := Try.zeroValue9
  t28 := Try.underlying33
  a28 := Try.isAgg33
  z28 := Try.sizeOf33
  v28 := Try.zeroValue33
  t46 := Try.underlying142
  a46 := Try.isAgg142
  z46 := Try.sizeOf142
  v46 := Try.zeroValue142
  t51 := Try.underlying156
  a51 := Try.isAgg156
  z51 := Try.sizeOf156
  v51 := Try.zeroValue156
  t53 := Try.underlying158
  a53 := Try.isAgg158
  z53 := Try.sizeOf158
  v53 := Try.zeroValue158
  t131 := Try.underlying153
  a131 := Try.isAgg153
  z131 := Try.sizeOf153
  v131 := Try.zeroValue153
  t182 := Try.underlying149
  a182 := Try.isAgg149
  z182 := Try.sizeOf149
  v182 := Try.zeroValue149
  t183 := Try.underlying150
  a183 := Try.isAgg150
  z183 := Try.sizeOf150
  v183 := Try.zeroValue150
  t218 := Try.underlying163
  a218 := Try.isAgg163
  z218 := Try.sizeOf163
  v218 := Try.zeroValue163
  t222 := Try.underlying167
  a222 := Try.isAgg167
  z222 := Try.sizeOf167
  v222 := Try.zeroValue167
  t228 := Try.underlying169
  a228 := Try.isAgg169
  z228 := Try.sizeOf169
  v228 := Try.zeroValue169
  t229 := Try.underlying170
  a229 := Try.isAgg170
  z229 := Try.sizeOf170
  v229 := Try.zeroValue170 }

/-- The datum holds the nodes of f, each with 'true'. -/
structure IsSetD (D : DataW Unit) (f : Int → Bool) : Prop where
  tidy : Tidy D
  ent : ∀ es, D = .map es → ∀ p ∈ es, ∃ x : Int, (0 ≤ x ∧ x < 10) ∧ p.1 = .int .i64 x
  has_ : ∀ x : Int, 0 ≤ x ∧ x < 10 → has D (.int .i64 x) = f x
  val : ∀ kl zd, has D kl = true → D.atKey kl zd = .lit (.bool true)
theorem IsSetD.empty : IsSetD (.map []) (fun _ => false) := ⟨tidy_empty, fun es h p hp => (by cases h; cases hp), fun _ _ => rfl, fun _ _ h => (by cases h)⟩
theorem IsSetD.key {D : DataW Unit} {f : Int → Bool} (h : IsSetD D f) (kl : Lit) (hk : has D kl = true) : ∃ x : Int, (0 ≤ x ∧ x < 10) ∧ kl = .int .i64 x := by
  obtain ⟨es, rfl, _⟩ := h.tidy
  rw [has_eq] at hk
  obtain ⟨p, hp, hs⟩ := List.any_eq_true.1 hk
  obtain ⟨x, hx, e⟩ := h.ent es rfl p hp
  exact ⟨x, hx, by rw [← WideAt.sameKey_eq hs, e]⟩
/-- The number of a key. -/
def kInt : Lit → Int
  | .int _ x => x
  | _ => 0
theorem isKey_int (x : Int) : WideAt.IsKeyLit (.int .i64 x) := by simp [WideAt.IsKeyLit]
theorem IsSetD.put {D : DataW Unit} {f : Int → Bool} (h : IsSetD D f) {x : Int} (hx : 0 ≤ x ∧ x < 10) : IsSetD (D.put (.int .i64 x) (.lit (.bool true))) (fun z => f z || decide (z = x)) where
  tidy := h.tidy.put (isKey_int x) _
  ent es he p hp := by
    obtain ⟨es0, rfl, _⟩ := h.tidy
    cases he
    rcases mem_insert_iff.1 hp with rfl | hp
    · exact ⟨x, hx, rfl⟩
    · exact h.ent es0 rfl p (List.mem_filter.1 hp).1
  has_ z hz := by
    by_cases e : z = x
    · subst e
      rw [has_put_same h.tidy.isMap (isKey_int z)]
      simp
    · rw [has_put_other (fun e' => e (by cases e'; rfl)), h.has_ z hz]
      simp [e]
  val kl zd hk := by
    by_cases e : kl = .int .i64 x
    · subst e
      exact atKey_put_same h.tidy.isMap (isKey_int x) _ _
    · rw [has_put_other e] at hk
      rw [atKey_put_other e]
      exact h.val kl zd hk
theorem tidy_foldPut : ∀ (es : List (Lit × DataW Unit)) (D : DataW Unit), Tidy D → (∀ p ∈ es, WideAt.IsKeyLit p.1) → Tidy (es.foldl (fun D p => D.put p.1 p.2) D)
  | [], _, h, _ => h
  | a :: r, D, h, hk => by
    rw [List.foldl_cons]
    exact tidy_foldPut r _ (h.put (hk a (by simp)) _) (fun p hp => hk p (List.mem_cons_of_mem _ hp))
theorem ents_foldPut : ∀ (es : List (Lit × DataW Unit)) (D : DataW Unit), IsMap D → (∀ l, D = .map l → ∀ p ∈ l, ∃ x : Int, (0 ≤ x ∧ x < 10) ∧ p.1 = .int .i64 x) → (∀ p ∈ es, ∃ x : Int, (0 ≤ x ∧ x < 10) ∧ p.1 = .int .i64 x) →
    ∀ l, es.foldl (fun D p => D.put p.1 p.2) D = .map l → ∀ p ∈ l, ∃ x : Int, (0 ≤ x ∧ x < 10) ∧ p.1 = .int .i64 x
  | [], _, _, h, _ => h
  | a :: r, D, hm, h, hk => by
    rw [List.foldl_cons]
    refine ents_foldPut r _ (hm.put _ _) (fun l hl p hp => ?_) (fun p hp => hk p (List.mem_cons_of_mem _ hp))
    obtain ⟨es0, rfl⟩ := hm
    cases hl
    rcases mem_insert_iff.1 hp with rfl | hp
    · exact hk a (by simp)
    · exact h es0 rfl p (List.mem_filter.1 hp).1
theorem IsSetD.merge {Dd Ds : DataW Unit} {fd fs : Int → Bool} (hd : IsSetD Dd fd) (hs : IsSetD Ds fs) : IsSetD (Lib.mergeD Dd Ds) (fun z => fd z || fs z) := by
  obtain ⟨es, rfl, hp⟩ := hs.tidy
  have hin := hs.ent es rfl
  have klit : ∀ p ∈ es, WideAt.IsKeyLit p.1 := fun p hpe => by
    obtain ⟨x, _, e⟩ := hin p hpe
    rw [e]
    exact isKey_int x
  have hH : ∀ k, has (Lib.mergeD Dd (.map es)) k = (has Dd k || has (.map es) k) := fun k => by
    show has (es.foldl (fun D p => D.put p.1 p.2) Dd) k = _
    rw [has_foldPut k es Dd hd.tidy.isMap klit, has_eq]
  refine ⟨tidy_foldPut es Dd hd.tidy klit, ents_foldPut es Dd hd.tidy.isMap hd.ent hin, fun x hx => ?_, fun kl zd hk => ?_⟩
  · rw [hH, hd.has_ x hx, hs.has_ x hx]
  · show (es.foldl (fun D p => D.put p.1 p.2) Dd).atKey kl zd = _
    rw [atKey_foldPut kl zd es Dd hd.tidy.isMap klit hp]
    cases hf : es.find? (fun p => p.1.sameKey kl) with
    | none =>
      have h0 : has (.map es) kl = false := by
        rw [has_eq]
        exact List.any_eq_false.2 (fun p hpe => by simpa using List.find?_eq_none.1 hf p hpe)
      rw [hH, h0, Bool.or_false] at hk
      exact hd.val kl zd hk
    | some p =>
      have h1 : has (.map es) kl = true := by
        rw [has_eq]
        exact List.any_eq_true.2 ⟨p, List.mem_of_find?_eq_some hf, List.find?_some (p := fun (q : Lit × DataW Unit) => q.1.sameKey kl) hf⟩
      have h2 : (DataW.map es).atKey kl zd = p.2 := by
        simp only [DataW.atKey]
        rw [hf]
      exact h2.symm.trans (hs.val kl zd h1)
theorem IsSetD.size_le {D : DataW Unit} {f : Int → Bool} (h : IsSetD D f) : size D ≤ 10 := by
  obtain ⟨es, rfl, hp⟩ := h.tidy
  have he := h.ent es rfl
  have h1 := nodup_bound 10 (es.map fun p => kInt p.1) (List.pairwise_map.2 (hp.imp_of_mem (fun {a b} ha hb hab e => by
    obtain ⟨x, _, ex⟩ := he a ha
    obtain ⟨y, _, ey⟩ := he b hb
    rw [ex, ey] at e
    have e' : x = y := e
    exact hab (by rw [ex, ey, e'])))) (fun z hz => by
    obtain ⟨p, hpe, rfl⟩ := List.mem_map.1 hz
    obtain ⟨x, hx, ex⟩ := he p hpe
    rw [ex]
    exact hx)
  rw [size_eq]
  simpa using h1

theorem KI : Keyed Try.prog 3 := int_keyed Try.underlying3
/-- Block b is a map that holds the nodes of f. -/
def SetAt (w : World) (b n : Nat) (f : Int → Bool) : Prop := ∃ D : DataW Unit, w.ownsMap Try.prog 3 (plainElem Try.prog 4) b n D ∧ IsSetD D f
theorem SetAt.lt {w : World} {b n : Nat} {f : Int → Bool} (h : SetAt w b n f) : b < w.heap.size := by obtain ⟨D, h, _⟩ := h; exact h.lt
theorem SetAt.mono {w : World} {b n m : Nat} {f : Int → Bool} (h : SetAt w b n f) (hn : n ≤ m) : SetAt w b m f := by obtain ⟨D, h, hs⟩ := h; exact ⟨D, h.mono hn, hs⟩
theorem SetAt.kept {w w' : World} {b n : Nat} {f : Int → Bool} {r : Option Nat} (h : SetAt w b n f) (hg : w.grownBy w' r) (hne : some b ≠ r) : SetAt w' b n f := by obtain ⟨D, h, hs⟩ := h; exact ⟨D, h.kept hg hne, hs⟩
theorem SetAt.congr {w : World} {b n : Nat} {f g : Int → Bool} (h : SetAt w b n f) (e : ∀ x, f x = g x) : SetAt w b n g := by rw [← (funext e : f = g)]; exact h
theorem SetAt.made (w : World) : SetAt (w.alloc (.map #[] 0)) w.heap.size 0 (fun _ => false) := ⟨.map [], World.ownsMap_made w _ _ _, .empty⟩
theorem copy_any (bd bs nd ns : Nat) (fd fs : Int → Bool) (w : World) (hd : SetAt w bd nd fd) (hs : SetAt w bs ns fs) (hne : bd ≠ bs) (hroom : nd + 10 ≤ maxLen) :
    Calls Try.prog 100 #[.map (some bd), .map (some bs)] w fun e w' => e = .returned (.tuple #[]) ∧ SetAt w' bd (nd + 10) (fun z => fd z || fs z) ∧ w.grownBy w' (some bd) := by
  obtain ⟨Dd, od, sd⟩ := hd
  obtain ⟨Ds, os, ss⟩ := hs
  have hsz := ss.size_le
  have h := AnyX.maps_Copy (H := Unit) Try.copy82 KI (plainElem Try.prog 4) bd bs nd ns Dd Ds w od os hne (by omega)
  change Calls Try.prog 100 _ _ _ at h
  refine h.mono ?_
  rintro e w' ⟨he, h1, _, h3⟩
  exact ⟨he, ⟨_, World.ownsMap.mono h1 (by omega), sd.merge ss⟩, h3⟩
/-- The nodes of a set, rising. -/
def setL (f : Int → Bool) : List Int := ((List.range 10).map fun (i : Nat) => (i : Int)).filter f
theorem mem_setL {f : Int → Bool} {x : Int} : x ∈ setL f ↔ (0 ≤ x ∧ x < 10) ∧ f x = true := by
  unfold setL
  rw [List.mem_filter, List.mem_map]
  constructor
  · rintro ⟨⟨i, hi, rfl⟩, h⟩
    rw [List.mem_range] at hi
    exact ⟨⟨by omega, by omega⟩, h⟩
  · rintro ⟨hx, h⟩
    exact ⟨⟨x.toNat, by rw [List.mem_range]; omega, by omega⟩, h⟩
theorem setL_sorted (f : Int → Bool) : (setL f).Pairwise (· < ·) := by
  unfold setL
  exact ((List.pairwise_map.2 (List.pairwise_lt_range.imp (fun h => by omega))).filter _)
theorem rising_eq : ∀ {l m : List Int}, l.Pairwise (· < ·) → m.Pairwise (· < ·) → (∀ x, x ∈ l ↔ x ∈ m) → l = m
  | [], [], _, _, _ => rfl
  | [], b :: m, _, _, h => absurd ((h b).2 (by simp)) (by simp)
  | a :: l, [], _, _, h => absurd ((h a).1 (by simp)) (by simp)
  | a :: l, b :: m, hl, hm, h => by
    obtain ⟨l1, l2⟩ := List.pairwise_cons.1 hl
    obtain ⟨m1, m2⟩ := List.pairwise_cons.1 hm
    have hab : a = b := by
      rcases List.mem_cons.1 ((h a).1 (by simp)) with e | ha
      · exact e
      · rcases List.mem_cons.1 ((h b).2 (by simp)) with e | hb
        · exact e.symm
        · have := m1 a ha
          have := l1 b hb
          omega
    subst hab
    rw [rising_eq l2 m2 (fun x => ?_)]
    constructor
    · intro hx
      rcases List.mem_cons.1 ((h x).1 (by simp [hx])) with e | hx'
      · have := l1 x hx; omega
      · exact hx'
    · intro hx
      rcases List.mem_cons.1 ((h x).2 (by simp [hx])) with e | hx'
      · have := m1 x hx; omega
      · exact hx'
theorem sort_setL {f : Int → Bool} {Z : List Int} (h1 : Z.Pairwise (fun a b => a ≠ b)) (h2 : ∀ x, x ∈ Z ↔ (0 ≤ x ∧ x < 10) ∧ f x = true) : Z.mergeSort (fun x y => decide (x ≤ y)) = setL f := by
  have tr : ∀ a b c : Int, decide (a ≤ b) = true → decide (b ≤ c) = true → decide (a ≤ c) = true := fun a b c h1 h2 => by simp only [decide_eq_true_eq] at *; exact Int.le_trans h1 h2
  have to : ∀ a b : Int, (decide (a ≤ b) || decide (b ≤ a)) = true := fun a b => by simp only [Bool.or_eq_true, decide_eq_true_eq]; exact Int.le_total a b
  have hp := List.mergeSort_perm Z (fun x y => decide (x ≤ y))
  have h3 := List.pairwise_mergeSort tr to Z
  have h4 : (Z.mergeSort (fun x y => decide (x ≤ y))).Pairwise (fun a b => a ≠ b) := hp.nodup_iff.2 h1
  refine rising_eq ((h3.and h4).imp fun {a b} h => ?_) (setL_sorted f) (fun x => by rw [hp.mem_iff, h2 x, mem_setL])
  have h5 := h.1
  have h6 := h.2
  simp only [decide_eq_true_eq] at h5
  omega
set_option maxRecDepth 100000 in
theorem elem_bool {v : Value} {y : DataW Unit × List MemPlace} (h : plainElem Try.prog 4 v = some y) : ∃ c, v = .bool c := by
  unfold plainElem at h
  rw [Try.underlying4] at h
  cases v <;> simp at h
  exact ⟨_, rfl⟩
theorem below_gr {B : Nat} {w w' : World} {r : Option Nat} (h : w.grownBy w' r) (hB : B ≤ w.heap.size) (hr : ∀ k, r = some k → B ≤ k) : RowKit.Below B w w' :=
  ⟨h.os, h.tape, h.output, h.size, fun k hk => h.block k (by omega) (fun e => by have := hr k e.symm; omega)⟩
theorem ints_bang {Z : List Int} {q : Nat} {z : Int} (h : Z[q]? = some z) : Z.toArray[q]! = z := by
  obtain ⟨hl, he⟩ := List.getElem?_eq_some_iff.1 h
  rw [getElem!_pos Z.toArray q (by simpa using hl)]
  simpa using he
theorem sort_any (B g cap : Nat) (Z : List Int) (w : World) (hO : w.ownsRow B 3 1 (.slice (some ⟨g, 0, none⟩) Z.length cap) Z.length (ints Z)) (hl : Z.length ≤ 10) :
    Calls Try.prog 101 #[.slice (some ⟨g, 0, none⟩) Z.length cap] w fun e w' => e = .returned (.tuple #[]) ∧ w.grownBy w' (some g) ∧ (∀ q z, (Z.mergeSort fun x y => decide (x ≤ y))[q]? = some z → w'.cell? ⟨g, q, none⟩ = some (.int .i64 z)) ∧ ∀ o, w'.frozen? ⟨g, o, none⟩ = false := by
  have hg := (hO.lt g rfl).2
  have hH : Holds (Value.int .i64) w g 0 Z.toArray := fun j hj => by
    have hj' : j < Z.length := by simpa using hj
    have hz : Z[j]? = some Z[j] := List.getElem?_eq_getElem hj'
    refine ⟨?_, by rw [Nat.zero_add]; exact hO.frozenAt j⟩
    rw [Nat.zero_add, hO.cellAt _ (by omega), ints_at' hz, ints_bang hz]
  have h := Any.slices_Sort_int Try.sort83 g 0 cap Z w hH hg (by omega)
  change Calls Try.prog 101 _ _ _ at h
  refine h.mono ?_
  rintro e w' ⟨he, n, os, rfl⟩
  have hlen : (Z.mergeSort fun x y => decide (x ≤ y)).length = Z.length := (List.mergeSort_perm Z _).length_eq
  have hgs : g < (putRow (Value.int .i64) (Sort.ahead w n) g 0 (Z.mergeSort fun x y => decide (x ≤ y)).toArray).heap.size := by rw [size_putRow]; exact hg
  refine ⟨he, ⟨rfl, rfl, rfl, by rw [size_grow, size_putRow]; exact Nat.le_add_right _ _, fun k hk hne => ?_⟩, fun q z hq => ?_, fun o => ?_⟩
  · rw [Sort.heap_grow_old _ _ (by rw [size_putRow]; exact hk)]
    unfold putRow mapBlock
    simp only [Array.getElem?_modify]
    rw [if_neg (fun e => hne (by rw [e]))]
    rfl
  · rw [Sort.cell?_grow _ _ _ hgs]
    have hql := (List.getElem?_eq_some_iff.1 hq).1
    have := cell?_putRow (Value.int .i64) (Sort.ahead w n) g 0 Z.toArray (Z.mergeSort fun x y => decide (x ≤ y)).toArray hH (by simp) q (by simpa using hql)
    rw [Nat.zero_add, ints_bang hq] at this
    exact this
  · rw [Sort.frozen?_grow _ _ _ hgs, frozen?_putRow]
    exact hO.frozenAt o
/-- What a step of a range over a set comes to. -/
structure NextS (w w' : World) (b r n : Nat) (D : DataW Unit) (f : Int → Bool) (left : Lit → Bool) (cnt cnt' : Nat) (x : Int) : Prop where
  rg : w'.ranges Try.prog 3 (plainElem Try.prog 4) b r n D (fun z => left z && !z.sameKey (.int .i64 x)) cnt'
  lt : cnt' < cnt
  gr : w.grownBy w' (some r)
  en : (Instr.entry (.pointer (some ⟨r, 0, none⟩))).run Try.prog w' = .ok (.tuple #[.int .i64 x, .bool true]) w'
  bx : 0 ≤ x ∧ x < 10
  fx : f x = true
  lx : left (.int .i64 x) = true
set_option maxRecDepth 100000 in
theorem next_set {ops : Array Oper} {rest : List Oper} {o : Oper} {a : Act} {Q : Exit → Act → World → Prop} (w : World) (hg : o.guard = none) (it : Operand) (hop : o.op = Op.next it false) (b r n : Nat) (D : DataW Unit) (f : Int → Bool) (left : Lit → Bool) (cnt : Nat)
    (hit : a.eval it = .pointer (some ⟨r, 0, none⟩)) (h : w.ranges Try.prog 3 (plainElem Try.prog 4) b r n D left cnt) (hs : IsSetD D f)
    (hDone : Hid (cnt = 0 ∧ ∀ kl, left kl = false) → wpList Try.prog ops Q rest (a.put o.dst (.tuple #[.bool false])) w)
    (hMore : ∀ (x : Int) (w' : World) (cnt' : Nat), Hid (NextS w w' b r n D f left cnt cnt' x) → wpList Try.prog ops Q rest (a.put o.dst (.tuple #[.bool true, .int .i64 x, .bool true])) w') :
    wpList Try.prog ops Q (o :: rest) a w := by
  refine wpList_next_ranges w hg it hop 3 KI (plainElem Try.prog 4) (Value.int .i64) Value.bool (fun key kl hk => (by obtain ⟨x, hx, _⟩ := Maps.keyOf_int_inv Try.underlying3 hk; exact ⟨x, hx⟩)) (fun v y hv => elem_bool hv) b r n D left cnt hit h (fun h0 hl => hDone ⟨h0, hl⟩) ?_
  intro x c kl y w1 cnt1 hkey hlx hv hat hrg1 hlt1 hg1 hs1 hen
  obtain ⟨x', ex, rfl, hwx⟩ := Maps.keyOf_int_inv Try.underlying3 hkey
  cases ex
  have hh := has_true_of_atKey hat
  obtain ⟨x2, hx2, e2⟩ := hs.key _ hh
  cases e2
  have hc : c = true := by
    have h1 := hs.val _ (.nil) hh
    rw [hat, show plainElem (H := Unit) Try.prog 4 (.bool c) = some (.lit (.bool c), []) from plainElem_bool Try.underlying4 c] at *
    cases hv
    cases h1
    rfl
  subst hc
  exact hMore x w1 cnt1 ⟨hrg1, hlt1, hg1, hen, hx2, by rw [← hs.has_ x hx2]; exact hh, hlx⟩

set_option maxRecDepth 100000 in
set_option maxHeartbeats 4000000 in
theorem sorted_any (b n : Nat) (f : Int → Bool) (w : World) (h : SetAt w b n f) : Calls Try.prog 78 #[.map (some b)] w fun e w' => ∃ rv, e = .returned rv ∧ Row 1 w' w.heap.size w'.heap.size rv (setL f).length (setL f) ∧ Below w.heap.size w w' := by
  have hb := h.lt
  obtain ⟨D, hown, hset⟩ := h
  obtain ⟨i3, hi, hz0, hz1, hz2⟩ := info_parts Try.info3
  have I := Lib.hid (And.intro hi (And.intro hz0 (And.intro hz1 hz2)))
  have HS := Lib.hid hset
  clear hi hz0 hz1 hz2 hset
  go_enter Try.func78, Try.ntmps78
  go_wp2_with (first | (at_range; refine wpList_range_own _ rfl _ 99 rfl 3 4 KI Try.underlying99 (plainElem Try.prog 4) b n _ rfl hown ?_; intro w0 hrg0 hg0 hs0))
  have HR0 : Hid (w0.ranges Try.prog 3 (plainElem Try.prog 4) b w.heap.size n D (Maps.has D) (Maps.size D)) := hrg0
  have HN : Hid (([] : List Int).Pairwise (fun a b => a ≠ b) ∧ ∀ x, x ∈ ([] : List Int) ↔ (0 ≤ x ∧ x < 10) ∧ f x = true ∧ Maps.has D (.int .i64 x) = false) := ⟨List.Pairwise.nil, fun x => ⟨fun h => absurd h (by simp), fun h => by rw [HS.out.has_ x h.1, h.2.1] at h; cases h.2.2⟩⟩
  have HB0 : Hid (Below w.heap.size w w0) := ⟨hg0.os, hg0.tape, hg0.output, hg0.size, fun k hk => hg0.block k hk (by simp)⟩
  have HO0 : Hid (w0.ownsRow (w.heap.size + 1) 3 1 (.slice none 0 0) 0 (ints [])) := World.ownsRow_nil _ _ _ _
  clear hrg0 hg0 hown
  go_frame
  go_loopw [3] (fun v wr => ∃ (Z : List Int) (left : Lit → Bool) (cnt : Nat), Hid (wr.ranges Try.prog 3 (plainElem Try.prog 4) b w.heap.size n D left cnt) ∧ Hid (wr.ownsRow (w.heap.size + 1) 3 1 v Z.length (ints Z)) ∧ Hid (Z.Pairwise (fun a b => a ≠ b) ∧ ∀ x, x ∈ Z ↔ (0 ≤ x ∧ x < 10) ∧ f x = true ∧ left (.int .i64 x) = false) ∧ Hid (Below w.heap.size w wr)) (fun _ wr => wr.rangeLeft b w.heap.size)
  case atStart => exact ⟨[], _, _, HR0, HO0, HN, HB0⟩
  case round =>
    obtain ⟨Z, left, cnt, hrg, hO, hZ, hB⟩ := hrel
    obtain ⟨oa, oc, ho⟩ := own_slice hO.out
    subst ho
    have hl10 : Z.length ≤ 10 := nodup_bound 10 Z hZ.out.1 (fun x hx => ((hZ.out.2 x).1 hx).1)
    go_wp2_with (first
      | (at_next; refine next_set _ rfl _ rfl b w.heap.size n D f left cnt rfl hrg.out HS.out ?_ ?_))
    · intro hdone
      have hall : ∀ x, x ∈ Z ↔ (0 ≤ x ∧ x < 10) ∧ f x = true := fun x => by
        rw [hZ.out.2 x]
        exact ⟨fun h => ⟨h.1, h.2.1⟩, fun h => ⟨h.1, h.2, hdone.out.2 _⟩⟩
      have Hsort := Lib.hid (sort_setL hZ.out.1 hall)
      have Hlen := Lib.hid ((List.mergeSort_perm Z (fun x y => decide (x ≤ y))).length_eq)
      clear hall hdone
      by_cases hz : Z.length = 0
      · obtain rfl : Z = [] := List.eq_nil_of_length_eq_zero hz
        go_wp2_with fail
        go_at_call 101
        have h := Any.slices_Sort_int_none Try.sort83 oa oc wr
        change Calls Try.prog 101 _ _ _ at h
        refine h.mono ?_
        rintro e w' ⟨rfl, rfl⟩
        go_wp2_with fail
        go_ret
        refine ⟨_, rfl, ?_, hB.out⟩
        have h0 := Hlen.out
        rw [Hsort.out] at h0
        rw [List.eq_nil_of_length_eq_zero h0]
        exact ⟨rfl, .inl ⟨rfl, _, _, rfl⟩⟩
      · obtain ⟨g, cap, hv, hgb, hgl⟩ := hO.out.form (by omega)
        cases hv
        go_wp2_with fail
        go_at_call 101
        refine (sort_any _ g oc Z wr hO.out hl10).mono ?_
        rintro e w' ⟨rfl, hgr, hce, hfr⟩
        have Hgr := Lib.hid hgr
        have Hce := Lib.hid hce
        have Hfr := Lib.hid hfr
        clear hgr hce hfr
        go_wp2_with fail
        go_ret
        have hs := Hgr.out.size
        refine ⟨_, rfl, ?_, hB.out.trans (below_gr Hgr.out hB.out.size (fun k e => by cases e; omega))⟩
        have h0 := Hlen.out
        rw [Hsort.out] at h0
        have h1 := Hce.out
        rw [Hsort.out] at h1
        rw [← h0]
        exact ⟨by simp, .inr ⟨g, oc, rfl, by omega, by omega, by omega, h1, Hfr.out⟩⟩
    · intro x w1 cnt1 hstep
      have hen := hstep.out.en
      have hr := hrg.out.lt
      have hne : ∀ k, (Value.slice oa Z.length oc).ownBlock = some k → w.heap.size + 1 ≤ k := fun k e => (hO.out.lt k e).1
      have Hne := Lib.hid hne
      have hs1 := hstep.out.gr.size
      have Hw := Lib.hid (hO.out.kept hstep.out.gr (by
        cases ho : (Value.slice oa Z.length oc).ownBlock with
        | none => exact .inl rfl
        | some k => exact .inr (fun e => by cases e; have := hne _ ho; omega)))
      clear hne
      go_wp2_with (at_builtin; refine wpList_append_lies _ rfl _ _ 33 rfl (w.heap.size + 1) 3 i3 (.int .i64 0) 1 8 Try.underlying33 I.out.1 I.out.2.1 I.out.2.2.1 I.out.2.2.2 rfl (by decide) _ Z.length (ints Z) rfl (Hw.out.alloc _) ⟨w1.heap.size, 0, none⟩ 1 1 [.int .i64 x] rfl rfl ?d0 (int_one _) (by decide) ?d1 ?d2 ?d3 _ rfl ?_)
      case d0 => exact fun j u hj => cell_one_new _ _ 3 rfl j u hj
      case d1 => unfold maxLen; omega
      case d2 => omega
      case d3 => simp; omega
      intro g4 cap4 w4 hown4 hgrow4 hat4 hlt4
      have HO4 : Hid (w4.ownsRow (w.heap.size + 1) 3 1 (.slice (some ⟨g4, 0, none⟩) (Z.length + 1) cap4) (Z ++ [x]).length (ints (Z ++ [x]))) := by
        show World.ownsRow _ _ _ _ _ _ _
        rw [show (Z ++ [x]).length = Z.length + 1 by simp, ← ints_snoc]
        exact hown4
      have HG4 := Lib.hid hgrow4
      clear hown4 hgrow4 hat4 hlt4 hen Hw
      go_wp2_with fail
      go_roundw
      case rel =>
        refine ⟨Z ++ [x], _, cnt1, (hstep.out.rg.alloc _).kept HG4.out (fun e => by have := Hne.out b e.symm; omega) (fun e => by have := Hne.out _ e.symm; omega), HO4, ⟨?_, fun z => ?_⟩, ?_⟩
        · refine List.pairwise_append.2 ⟨hZ.out.1, List.pairwise_singleton _ _, fun a ha c hc => ?_⟩
          rw [List.mem_singleton] at hc
          subst hc
          rintro rfl
          have := ((hZ.out.2 _).1 ha).2.2
          rw [hstep.out.lx] at this
          cases this
        · rw [List.mem_append, List.mem_singleton, hZ.out.2 z]
          by_cases e : z = x
          · subst e
            have h1 := hstep.out.bx
            have h2 := hstep.out.fx
            have h3 := WideAt.sameKey_self (isKey_int z)
            simp [h1, h2, h3]
          · have h3 : (Lit.int .i64 z).sameKey (.int .i64 x) = false := sameKey_ne (fun e' => e (by cases e'; rfl))
            simp [e, h3]
        · have b1 := below_gr hstep.out.gr hB.out.size (fun k e => by cases e; omega)
          have b2 : RowKit.Below w.heap.size w1 (w1.alloc (.cells #[.int .i64 x] 3)) := (RowKit.Below.refl _ _).alloc (by omega) _
          exact ((hB.out.trans b1).trans b2).trans (below_gr HG4.out (by simp; omega) (fun k e => by have := Hne.out k e; omega))
      case measure => rw [((hstep.out.rg.alloc _).kept HG4.out (fun e => by have := Hne.out b e.symm; omega) (fun e => by have := Hne.out _ e.symm; omega)).left_eq, hrg.out.left_eq]; exact hstep.out.lt

end Go.Proofs.Ytjenjdhoblcohaa
