/- The list behind a map of advertisements. -/
import Derived.Shelf.SlIterI.Sorted
import Derived.Shelf.SortM.Plain
import Derived.Shelf.SortM.SortNone
import Derived.Test.YtfpafjdakipccaaMp
import Derived.Test.YtfpafjdakipccaaRows
import Derived.Test.YtfpafjdakipccaaCp
import Derived.Test.YtfpafjdakipccaaZ1
import Derived.Test.YtfpafjdakipccaaCf
namespace Go.Proofs.Ytfpafjdakipccaa
open Go.RowKit
open Go.RowKit Go.Maps Go.Sort Go.Shelf
def Try.keys92_ren : Go.Shelf.Ren := ⟨fun | 7 => 92 | 10 => 119 | n => n, fun | 23 => 82 | 26 => 3 | 3 => 33 | 28 => 119 | 0 => 0 | 27 => 118 | 33 => 107 | 4 => 4 | n => n, fun | n => n⟩
theorem Try.keys92 : Go.Proofs.SlLaysZI.n7 Try.prog Try.keys92_ren := {
  mixed := by kernel_rfl
  f7 := ⟨Try.f92.name, by decide, Try.func92.trans (congrArg some (by kernel_rfl))⟩
  f10 := ⟨Try.f119.name, by decide, Try.func119.trans (congrArg some (by kernel_rfl))⟩
  t0 := Try.underlying0
  a0 := Try.isAgg0
  z0 := Try.sizeOf0
  v0 := Try.zeroValue0
  t4 := Try.underlying4
  a4 := Try.isAgg4
  z4 := Try.sizeOf4
  v4 := Try.zeroValue4
  t23 := Try.underlying82
  a23 := Try.isAgg82
  z23 := Try.sizeOf82
  v23 := Try.zeroValue82
  t26 := Try.underlying3
  a26 := Try.isAgg3
  z26 := Try.sizeOf3
  v26 := Try.zeroValue3
  t27 := Try.underlying118
  a27 := Try.isAgg118
  z27 := Try.sizeOf118
  v27 := Try.zeroValue118
  t28 := Try.underlying119
  a28 := Try.isAgg119
  z28 := Try.sizeOf119
  v28 := Try.zeroValue119
  t33 := Try.underlying107
  a33 := Try.isAgg107
  z33 := Try.sizeOf107
  v33 := Try.zeroValue107 }
def Try.sorted91_ren : Go.Shelf.Ren := ⟨fun | 6 => 91 | 8 => 117 | 9 => 118 | 11 => 137 | 13 => 139 | 12 => 138 | 23 => 155 | 24 => 156 | 14 => 146 | 15 => 147 | 16 => 148 | 17 => 149 | 18 => 150 | 19 => 151 | 20 => 152 | 21 => 153 | 22 => 154 | 25 => 160 | 26 => 161 | 27 => 162 | 28 => 163 | 29 => 164 | 30 => 142 | 31 => 165 | n => n, fun | 26 => 3 | 28 => 119 | 24 => 59 | 0 => 0 | 3 => 3 | 37 => 159 | 48 => 183 | 50 => 185 | 4 => 4 | 40 => 175 | 39 => 174 | 45 => 180 | 5 => 5 | 9 => 9 | 51 => 189 | 55 => 193 | 57 => 195 | 58 => 196 | 33 => 107 | n => n, fun | n => n⟩
theorem Try.sorted91 : Go.Proofs.SlLaysZI.n6 Try.prog Try.sorted91_ren := {
  mixed := by kernel_rfl
  f6 := ⟨Try.f91.name, by decide, Try.func91.trans (congrArg some (by kernel_rfl))⟩
  f8 := ⟨Try.f117.name, by decide, Try.func117.trans (congrArg some (by kernel_rfl))⟩
  f11 := ⟨Try.f137.name, by decide, Try.func137.trans (congrArg some (by kernel_rfl))⟩
  t0 := Try.underlying0
  a0 := Try.isAgg0
  z0 := Try.sizeOf0
  v0 := Try.zeroValue0
  t24 := Try.underlying59
  a24 := Try.isAgg59
  z24 := Try.sizeOf59
  v24 := Try.zeroValue59
  t26 := Try.underlying3
  a26 := Try.isAgg3
  z26 := Try.sizeOf3
  v26 := Try.zeroValue3
  t28 := Try.underlying119
  a28 := Try.isAgg119
  z28 := Try.sizeOf119
  v28 := Try.zeroValue119
  i26 := by kernel_rfl }
def Try.sort118_ren : Go.Shelf.Ren := ⟨fun | 5 => 118 | 8 => 139 | 7 => 138 | 19 => 155 | 20 => 156 | 10 => 146 | 11 => 147 | 12 => 148 | 13 => 149 | 14 => 150 | 15 => 151 | 16 => 152 | 17 => 153 | 18 => 154 | 30 => 160 | 31 => 161 | 32 => 162 | 33 => 163 | 34 => 164 | 35 => 142 | 40 => 165 | n => n, fun | 23 => 59 | 25 => 3 | 3 => 3 | 32 => 159 | 22 => 59 | 0 => 0 | 44 => 183 | 46 => 185 | 4 => 4 | 36 => 175 | 35 => 174 | 41 => 180 | 5 => 5 | 9 => 9 | 53 => 189 | 57 => 193 | 63 => 195 | 64 => 196 | n => n, fun | n => n⟩
theorem Try.sort118 : Go.Proofs.SlLaysM.n5 Try.prog Try.sort118_ren := {
  mixed := by kernel_rfl
  f5 := ⟨Try.f118.name, by decide, Try.func118.trans (congrArg some (by kernel_rfl))⟩
  f7 := ⟨Try.f138.name, by decide, Try.func138.trans (congrArg some (by kernel_rfl))⟩
  f8 := Try.func139.trans (congrArg some (by kernel_rfl))
  f10 := ⟨Try.f146.name, by decide, Try.func146.trans (congrArg some (by kernel_rfl))⟩
  f11 := ⟨Try.f147.name, by decide, Try.func147.trans (congrArg some (by kernel_rfl))⟩
  f12 := ⟨Try.f148.name, by decide, Try.func148.trans (congrArg some (by kernel_rfl))⟩
  f13 := ⟨Try.f149.name, by decide, Try.func149.trans (congrArg some (by kernel_rfl))⟩
  f14 := ⟨Try.f150.name, by decide, Try.func150.trans (congrArg some (by kernel_rfl))⟩
  f15 := ⟨Try.f151.name, by decide, Try.func151.trans (congrArg some (by kernel_rfl))⟩
  f16 := ⟨Try.f152.name, by decide, Try.func152.trans (congrArg some (by kernel_rfl))⟩
  f17 := ⟨Try.f153.name, by decide, Try.func153.trans (congrArg some (by kernel_rfl))⟩
  f18 := ⟨Try.f154.name, by decide, Try.func154.trans (congrArg some (by kernel_rfl))⟩
  f19 := Try.func155.trans (congrArg some (by kernel_rfl))
  f20 := Try.func156.trans (congrArg some (by kernel_rfl))
  f30 := ⟨Try.f160.name, by decide, Try.func160.trans (congrArg some (by kernel_rfl))⟩
  f31 := Try.func161.trans (congrArg some (by kernel_rfl))
  f32 := Try.func162.trans (congrArg some (by kernel_rfl))
  f33 := ⟨Try.f163.name, by decide, Try.func163.trans (congrArg some (by kernel_rfl))⟩
  f34 := ⟨Try.f164.name, by decide, Try.func164.trans (congrArg some (by kernel_rfl))⟩
  f35 := ⟨Try.f142.name, by decide, Try.func142.trans (congrArg some (by kernel_rfl))⟩
  f40 := ⟨Try.f165.name, by decide, Try.func165.trans (congrArg some (by kernel_rfl))⟩
  t0 := Try.underlying0
  a0 := Try.isAgg0
  z0 := Try.sizeOf0
  v0 := Try.zeroValue0
  t3 := Try.underlying3
  a3 := Try.isAgg3
  z3 := Try.sizeOf3
  v3 := Try.zeroValue3
  t4 := Try.underlying4
  a4 := Try.isAgg4
  z4 := Try.sizeOf4
  v4 := Try.zeroValue4
  t5 := Try.underlying5
  a5 := Try.isAgg5
  z5 := Try.sizeOf5
  v5 := Try.zeroValue5
  t9 := Try.underlying9
  a9 := Try.isAgg9
  z9 := Try.sizeOf9
  v9 := Try.zeroValue9
  t22 := Try.underlying59
  a22 := Try.isAgg59
  z22 := Try.sizeOf59
  v22 := Try.zeroValue59
  t23 := Try.underlying59
  a23 := Try.isAgg59
  z23 := Try.sizeOf59
  v23 := Try.zeroValue59
  t25 := Try.underlying3
  a25 := Try.isAgg3
  z25 := Try.sizeOf3
  v25 := Try.zeroValue3
  t32 := Try.underlying159
  a32 := Try.isAgg159
  z32 := Try.sizeOf159
  v32 := Try.zeroValue159
  t35 := Try.underlying174
  a35 := Try.isAgg174
  z35 := Try.sizeOf174
  v35 := Try.zeroValue174
  t36 := Try.underlying175
  a36 := Try.isAgg175
  z36 := Try.sizeOf175
  v36 := Try.zeroValue175
  t41 := Try.underlying180
  a41 := Try.isAgg180
  z41 := Try.sizeOf180
  v41 := Try.zeroValue180
  t44 := Try.underlying183
  a44 := Try.isAgg183
  z44 := Try.sizeOf183
  v44 := Try.zeroValue183
  t46 := Try.underlying185
  a46 := Try.isAgg185
  z46 := Try.sizeOf185
  v46 := Try.zeroValue185
  t53 := Try.underlying189
  a53 := Try.isAgg189
  z53 := Try.sizeOf189
  v53 := Try.zeroValue189
  t57 := Try.underlying193
  a57 := Try.isAgg193
  z57 := Try.sizeOf193
  v57 := Try.zeroValue193
  t63 := Try.underlying195
  a63 := Try.isAgg195
  z63 := Try.sizeOf195
  v63 := Try.zeroValue195
  t64 := Try.underlying196
  a64 := Try.isAgg196
  z64 := Try.sizeOf196
  v64 := Try.zeroValue196 }
theorem Try.sorts91 (m : Nat) : AnyZI.SortsIn Try.prog Try.sorted91_ren Fence.wide m :=
  ⟨fun blk off cap ss W hH hblk hsz => callsIn_wide.2 (AnyM.slices_Sort_int Try.sort118 blk off cap ss W hH hblk hsz),
   fun p cap W => callsIn_wide.2 (AnyM.slices_Sort_int_none Try.sort118 p cap W)⟩
open Go.RowKit Go.Maps Go.Sort Go.Shelf Go.MapKept
open Go.WideElems (Fit rd rg pl rd_val elemAt rg_of rd_mk)
theorem nodup_le : ∀ (n : Nat) (L : List Int), L.Nodup -> (∀ x ∈ L, 0 <= x /\ x < (n : Int)) -> L.length <= n
  | 0, L, _, h => by
    cases L with
    | nil => simp
    | cons a l => have := h a (by simp); omega
  | n + 1, L, hn, h => by
    have h1 := nodup_le n (L.erase (n : Int)) (hn.erase _) (fun x hx => by
      have h2 := (hn.mem_erase_iff).1 hx
      have h3 := h x h2.2
      have h4 := h2.1
      omega)
    rw [List.length_erase] at h1
    split at h1 <;> omega
def Rn : Value -> Option (DataW Unit × List MemPlace) := fun _ => some (.nil, [])
def Rk (e : MapEntry) : Int := match e.key with | .int _ x => x | _ => 0
theorem Rk_of {e : MapEntry} {x : Int} (h : e.key = .int .i64 x) : Rk e = x := by unfold Rk; rw [h]
theorem MapI.keys {w : World} {m : Nat} {f : Int -> Option Value} {P : Program} {k : TypeId} (h : MapI w m f) (hk : P.underlying k = some (.int .i64)) :
    ∃ D0, w.ownsMap P k Rn m 10 D0 /\ Maps.size D0 <= 10 /\ (intKeys D0).Nodup /\ ∀ x, x ∈ intKeys D0 ↔ (f x).isSome = true := by
  obtain ⟨es, clock, hb, hs, h1, h2⟩ := h
  have hap := ((stamped_iff es clock).1 hs).2.2
  have hrd : ∀ e ∈ es.toList, Go.WideElems.rd P k Rn e = some (.int .i64 (Rk e), .nil) := by
    intro e he
    obtain ⟨x, hx, x0, x9, _⟩ := h1 e he
    rw [Rk_of hx]
    have hkey := keyOf_int_mk hk (a := x) (by have q1 : IntKind.i64.min = -9223372036854775808 := rfl; have q2 : IntKind.i64.max = 9223372036854775807 := rfl; simp [Lit.wf]; omega)
    unfold Go.WideElems.rd
    rw [hx, hkey]
    rfl
  have hnd : (es.toList.map Rk).Nodup := by
    refine List.pairwise_map.2 (hap.imp_of_mem fun {p q} hp hq hne e => hne ?_)
    obtain ⟨a, ha, _⟩ := h1 p hp
    obtain ⟨b, hb', _⟩ := h1 q hq
    rw [Rk_of ha, Rk_of hb'] at e
    rw [ha, hb', e]
  have hsz : es.size <= 10 := by
    have := nodup_le 10 _ hnd (fun x hx => by
      obtain ⟨e, he, rfl⟩ := List.mem_map.1 hx
      obtain ⟨y, hy, y0, y9, _⟩ := h1 e he
      rw [Rk_of hy]; omega)
    simpa using this
  have hp := Go.WideShapes.sorted_perm (es.toList.map (rg P k Rn))
  have hrg : ∀ e ∈ es.toList, rg P k Rn e = (.int .i64 (Rk e), .nil) := fun e he => rg_of (hrd e he)
  have hik : (intKeys (.map ((es.toList.map (rg P k Rn)).foldr DataW.insert []) : DataW Unit)).Perm (es.toList.map Rk) := by
    refine (hp.map _).trans ?_
    rw [List.map_map]
    refine List.Perm.of_eq (List.map_congr_left fun e he => ?_)
    simp only [Function.comp]
    rw [hrg e he]; rfl
  refine ⟨_, ⟨es, clock, hb, ⟨by unfold maxLen; omega, hs, fun e he => ⟨_, hrd e he⟩⟩, hsz, rfl⟩, ?_, hik.nodup_iff.2 hnd, fun x => ?_⟩
  · have := hp.length_eq
    show List.length _ <= 10
    rw [this]; simpa using hsz
  · rw [hik.mem_iff, List.mem_map]
    constructor
    · rintro ⟨e, he, rfl⟩
      obtain ⟨y, hy, _, _, hf⟩ := h1 e he
      rw [Rk_of hy, hf]; rfl
    · intro hx
      obtain ⟨v, hv⟩ := Option.isSome_iff_exists.1 hx
      obtain ⟨e, he, hk', _⟩ := h2 x v hv
      exact ⟨e, he, Rk_of hk'⟩
theorem keys_any (mb : Option Nat) (W : World) : Calls Try.prog 92 #[.map mb] W fun e w' => e = .returned (.func (.func 119) #[] #[.pointer (some ⟨W.heap.size, 0, none⟩)]) /\ w' = W.alloc (.cells #[.map mb] 82) :=
  (callsIn_wide (n := 5)).1 (AnyZI.keys_in Try.keys92 Fence.wide 5 trivial rfl mb W)
set_option maxRecDepth 100000 in
theorem sorted_keys (m : Nat) (f : Int -> Option Value) (w : World) (h : MapI w m f) : Calls Try.prog 91 #[.func (.func 119) #[] #[.pointer (some ⟨w.heap.size, 0, none⟩)]] (w.alloc (.cells #[.map (some m)] 82)) fun e w' => ∃ (v : Value) (S : List Int), e = .returned v /\ w'.ownsRow (w.heap.size + 1) 3 1 v S.length (S.map encZ) /\ S.Pairwise (· < ·) /\ (∀ x, x ∈ S ↔ (f x).isSome = true) /\ Below w.heap.size w w' := by
  obtain ⟨D0, hown, hmax, hnd, hmem⟩ := h.keys (P := Try.prog) (k := 3) Try.underlying3
  have hseq : SeqGives Fence.wide 2 Try.prog 119 #[.pointer (some ⟨w.heap.size, 0, none⟩)] encZ (fun ss => ss.Perm (intKeys D0)) (Maps.size D0) (w.alloc (.cells #[.map (some m)] 82)) :=
    AnyZI.keys_gives (ρ := Try.keys92_ren) { Try.keys92 with } Fence.wide _ trivial rfl (by omega) w.heap.size m 10 D0 _ (by simp) (by simp) (by
      obtain ⟨es, clock, hb, Ft, hs, hD⟩ := hown
      exact ⟨es, clock, (Below.heap_alloc _ _ m h.lt).trans hb, Ft, hs, hD⟩)
  have cS := AnyZI.sorted_in Try.sorted91 Fence.wide 5 trivial trivial trivial trivial rfl (by omega) (Try.sorts91 _) (enters_of Try.func118 (by kernel_rfl) rfl) 119 #[.pointer (some ⟨w.heap.size, 0, none⟩)] trivial (enters_of Try.func119 (by kernel_rfl) rfl) _ _ (by unfold maxLen; omega) (by omega) _ hseq
  change CallsIn _ _ Try.prog 91 _ _ _ at cS
  refine ((callsIn_wide (n := 5)).1 cS).mono ?_
  rintro e w' ⟨v, ss, rfl, hS, hrow, hnil, hb⟩
  have hp : (ss.mergeSort (fun x y => decide (x <= y))).Perm (intKeys D0) := (List.mergeSort_perm ss _).trans hS
  have hl : (ss.mergeSort (fun x y => decide (x <= y))).length = ss.length := (List.mergeSort_perm ss _).length_eq
  refine ⟨v, _, rfl, by rw [hl]; exact ownsRow_base_a hrow (by simp), ?_, fun x => by rw [hp.mem_iff]; exact hmem x, ((Below.refl _ w).alloc (Nat.le_refl _) _).trans (hb.mono (by simp))⟩
  have tr : ∀ a b c : Int, decide (a <= b) = true -> decide (b <= c) = true -> decide (a <= c) = true := fun a b c h1 h2 => by simp only [decide_eq_true_eq] at *; exact Int.le_trans h1 h2
  have hto : ∀ a b : Int, (decide (a <= b) || decide (b <= a)) = true := fun a b => by simp only [Bool.or_eq_true, decide_eq_true_eq]; exact Int.le_total a b
  have h1 := List.pairwise_mergeSort tr hto ss
  have h2 : (ss.mergeSort (fun x y => decide (x <= y))).Pairwise (fun a b => a ≠ b) := hp.nodup_iff.2 hnd
  refine (h1.and h2).imp fun {a b} h => ?_
  have h3 := h.1
  have h4 := h.2
  simp only [decide_eq_true_eq] at h3
  omega
section
variable {P : Program} (w : World) {ops : Array Oper} {o : Oper} {a : Act} {K : Act -> World -> Prop} {Q : Exit -> Act -> World -> Prop} {E : Prop}
end
def KeptR (q wr : World) (X : Nat) (rv : Value) : Prop := (∀ b, X < b -> b < q.heap.size -> wr.heap[b]? = q.heap[b]?) /\ (∀ g, rv.ownBlock = some g -> q.heap.size <= g) /\ q.heap.size <= wr.heap.size
theorem KeptR.start (q : World) (X : Nat) : KeptR q q X (.slice none 0 0) := ⟨fun _ _ _ => rfl, fun g hg => by simp [Value.ownBlock] at hg, Nat.le_refl _⟩
theorem KeptR.grow {q wr w3 : World} {X : Nat} {rv : Value} (h : KeptR q wr X rv) (hb : Below wr.heap.size wr w3) : KeptR q w3 X rv :=
  ⟨fun b h1 h2 => (hb.block b (by have := h.2.2; omega)).trans (h.1 b h1 h2), h.2.1, Nat.le_trans h.2.2 hb.size⟩
theorem KeptR.app {q w3 w4 : World} {X g n cap : Nat} {rv v : Value} {o : Obj} (h : KeptR q w3 X rv) (hg : (w3.alloc o).grownBy w4 rv.ownBlock) (hat : rv.ownBlock = some g ∨ g = w3.heap.size + 1) :
    KeptR q (w4.setCell ⟨X, 0, none⟩ v) X (.slice (some ⟨g, 0, none⟩) n cap) := by
  have hz : (w3.alloc o).heap.size <= w4.heap.size := hg.size
  have hz' : w3.heap.size + 1 <= w4.heap.size := by simpa using hz
  have h3 := h.2.2
  refine ⟨fun b h1 h2 => ?_, fun g' hg' => ?_, by simp [World.setCell]; omega⟩
  · rw [Below.heap_setCell _ _ _ _ (by show b ≠ X; omega), hg.block b (by simp; omega) (fun q' => by have := h.2.1 b q'.symm; omega)]
    rw [Below.heap_alloc _ _ b (by omega)]
    exact h.1 b h1 h2
  · obtain rfl : g = g' := by simpa [Value.ownBlock] using hg'
    rcases hat with e | e
    · exact h.2.1 g e
    · omega
theorem MapI.key09 {w : World} {m : Nat} {f : Int -> Option Value} (h : MapI w m f) {x : Int} (hx : (f x).isSome = true) : 0 <= x /\ x <= 9 := by
  obtain ⟨es, clock, _, _, h1, h2⟩ := h
  obtain ⟨v, hv⟩ := Option.isSome_iff_exists.1 hx
  obtain ⟨e, he, hk, _⟩ := h2 x v hv
  obtain ⟨y, hy, y0, y9, _⟩ := h1 e he
  rw [hk] at hy
  obtain rfl : x = y := by simpa using hy
  exact ⟨y0, y9⟩
def IdbPost (F : Int -> Option Ls) (w : World) (e : Ending) (w' : World) : Prop := ∃ (rv : Value) (S : List Int), e = .returned (.agg #[rv]) /\ S.Pairwise (· < ·) /\ (∀ x, x ∈ S ↔ (F x).isSome = true) /\ DRow w' w.heap.size w'.heap.size rv (S.filterMap F) /\ Below w.heap.size w w'
theorem idbP {F : Int -> Option Ls} {w w' : World} {e : Ending} (rv : Value) (S : List Int) (h1 : e = .returned (.agg #[rv])) (h2 : S.Pairwise (· < ·)) (h3 : ∀ x, x ∈ S ↔ (F x).isSome = true) (h4 : DRow w' w.heap.size w'.heap.size rv (S.filterMap F)) (h5 : Below w.heap.size w w') : IdbPost F w e w' := ⟨rv, S, h1, h2, h3, h4, h5⟩
theorem filt_snoc {F : Int -> Option Ls} {S : List Int} {k : Nat} {x : Int} {l : Ls} (hx : S[k]? = some x) (hl : F x = some l) : (S.take (k + 1)).filterMap F = (S.take k).filterMap F ++ [l] := by
  rw [List.take_add_one, hx, List.filterMap_append]
  simp [hl]
set_option maxRecDepth 100000 in
set_option maxHeartbeats 8000000 in
theorem idb_any (F : Int -> Option Ls) (m B : Nat) (w : World) (hs : Shelf w m B F) (hk : Shok F) :
    Calls Try.prog 52 #[.map (some m)] w fun e w' => IdbPost F w e w' := by
  have HZV : Hid (∀ w : World, (zeroValue 33).run Try.prog w = .ok (.agg #[.int .i64 0, .int .i64 0, .int .i64 0, .slice none 0 0, .slice none 0 0]) w) := Lib.hid fun w => by simp [Try.zeroValue33]
  obtain ⟨iL, hi0, hz0, hz1, hz2⟩ := info_parts Try.info33
  have IL := Lib.hid (And.intro hi0 (And.intro hz0 (And.intro hz1 hz2)))
  clear hi0 hz0 hz1 hz2
  have hml := hs.lt
  obtain ⟨sB, ff, sm, sf⟩ := hs
  have SF := Lib.hid sf
  have SM := Lib.hid sm
  have HF := Lib.hid hk
  have hmem0 : ∀ x, (ff x).isSome = true ↔ (F x).isSome = true := fun x => by
    rcases sf x with ⟨e1, e2⟩ | ⟨l, u, y, H0, H1, e1, e2, _, _⟩ <;> rw [e1, e2] <;> simp
  clear sf sm hk
  go_enter Try.func52, Try.ntmps52
  go_wp2_with fail
  obtain ⟨q0, hq0⟩ : ∃ q, q = (w.alloc (.cells #[.slice none 0 0] 26)).alloc (.cells #[.slice none 0 0] 26) := ⟨_, rfl⟩
  have qb : Below w.heap.size w q0 := by rw [hq0]; go_grown
  have qz : q0.heap.size = w.heap.size + 2 := by rw [hq0]; simp
  have q0r : q0.cell? ⟨w.heap.size, 0, none⟩ = some (.slice none 0 0) := by rw [hq0, old_box (by simp), new_at rfl]; rfl
  have q0c : q0.cell? ⟨w.heap.size + 1, 0, none⟩ = some (.slice none 0 0) := by rw [hq0, new_at (by simp)]; rfl
  have q0f : q0.frozen? ⟨w.heap.size + 1, 0, none⟩ = false := by rw [hq0, new_frz (by simp)]
  have q0g : q0.frozen? ⟨w.heap.size, 0, none⟩ = false := by rw [hq0, old_frz (by simp), new_frz (by simp)]
  have hm0 : MapI q0 m ff := SM.out.move (qb.block m hml)
  rw [<- hq0]
  clear hq0
  go_at_call 92
  refine (keys_any (some m) q0).mono ?_
  rintro e w1 ⟨rfl, rfl⟩
  go_wp2_with fail
  go_at_call 91
  have hsk := sorted_keys m ff q0 hm0
  rw [qz] at hsk
  refine hsk.mono ?_
  clear hsk
  rintro e q ⟨v, ss, rfl, hrow, hlt, hmem, hb⟩
  have hmem' : ∀ x, x ∈ ss ↔ (F x).isSome = true := fun x => (hmem x).trans (hmem0 x)
  obtain ⟨n, hn⟩ : ∃ n, n = ss.length := ⟨_, rfl⟩
  have hrow' : q.ownsRow (w.heap.size + 2 + 1) 3 1 v ss.length (ints ss) := hrow
  have hpw : ss.length <= 1100000 := by
    have h := nodup_le 10 ss (hlt.imp fun h e => by omega) (fun x hx => by
      have h1 := (hmem x).1 hx
      have h2 := hm0.key09 h1
      omega)
    omega
  have hrw := row_of_own hrow' hpw
  obtain ⟨a, c, rfl, -, hcell⟩ := hrw.opened
  have hlow := hrow'.lt
  rw [<- hn] at hcell hpw hlow ⊢
  have qb2 : Below w.heap.size w q := qb.trans (hb.mono (by omega))
  have zq := hb.size
  have qo : Hid (OutE q q (w.heap.size + 1) (.slice none 0 0) []) := Lib.hid (OutE.start (by omega) (by rw [hb.frozen (p := ⟨w.heap.size + 1, 0, none⟩) (by show w.heap.size + 1 < _; omega)]; exact q0f) (by rw [hb.cell (p := ⟨w.heap.size + 1, 0, none⟩) (by show w.heap.size + 1 < _; omega)]; exact q0c))
  have qr : q.cell? ⟨w.heap.size, 0, none⟩ = some (.slice none 0 0) := by rw [hb.cell (p := ⟨w.heap.size, 0, none⟩) (by show w.heap.size < _; omega)]; exact q0r
  have qg : q.frozen? ⟨w.heap.size, 0, none⟩ = false := by rw [hb.frozen (p := ⟨w.heap.size, 0, none⟩) (by show w.heap.size < _; omega)]; exact q0g
  have qs : w.heap.size + 2 <= q.heap.size := by omega
  have HQ := Lib.hid (And.intro qb2 (And.intro qs (And.intro qr qg)))
  have HC := Lib.hid hcell
  have HW0 := Lib.hid (And.intro hlow (And.intro qz hn))
  have HS := Lib.hid (And.intro hlt hmem')
  clear qb qb2 qs qr qg hcell hrow hrow' hrw hlow hlt hmem hmem' hmem0 hm0 q0r q0c q0f q0g hb zq hn
  go_wp2_with fail
  go_loopw [10] (fun i wr => ∃ (k : Nat) (rv : Value) (E : List Ent), k <= n /\ i = .int .i64 (k : Int) /\ Hid (OutE q wr (w.heap.size + 1) rv E) /\ Hid (E.map (·.l) = (ss.take k).filterMap F) /\ Hid (E.length = k) /\ Hid (KeptR q wr (w.heap.size + 1) rv)) (fun i _ => n - (intOf i).toNat)
  case atStart => exact ⟨0, _, [], Nat.zero_le _, rfl, qo, Lib.hid rfl, Lib.hid rfl, Lib.hid (KeptR.start _ _)⟩
  case round =>
    clear qo
    obtain ⟨k, rv, E, hk, rfl, HO, HE, HEL, HK⟩ := hrel
    obtain ⟨qb, qs, qr, qg⟩ := HQ.out
    have hX := HO.out.size
    have hB : Below w.heap.size w wr := qb.trans (HO.out.below.mono (by omega))
    have cr : wr.cell? ⟨w.heap.size, 0, none⟩ = some (.slice none 0 0) := by rw [HO.out.below.cell (p := ⟨w.heap.size, 0, none⟩) (by show w.heap.size < _; omega)]; exact qr
    have fr : wr.frozen? ⟨w.heap.size, 0, none⟩ = false := by rw [HO.out.below.frozen (p := ⟨w.heap.size, 0, none⟩) (by show w.heap.size < _; omega)]; exact qg
    have cx := HO.out.cell
    have hwl : w.heap.size < wr.heap.size := by omega
    obtain ⟨xa, xc, hrv⟩ := own_slice HO.out.own
    rw [HEL.out] at hrv
    subst hrv
    by_cases hlt : k < n
    · obtain ⟨x, hx⟩ : ∃ x, ss[k]? = some x := ⟨_, List.getElem?_eq_getElem (by have := HW0.out.2.2; omega)⟩
      obtain ⟨g, rfl, g1, g2⟩ := HC.out (by omega)
      have hg3 := HW0.out.1 g rfl
      have ck0 := g2 k x hx
      have ck : wr.cell? ⟨g, k, none⟩ = some (.int .i64 x) := (World.cell?_of_block (HK.out.1 g (by omega) (by omega))).trans ck0
      have hgw : g < wr.heap.size := by have := HK.out.2.2; omega
      have hsome := (HS.out.2 x).1 (List.mem_of_getElem? hx)
      obtain ⟨l, u, y, H0, H1, e1, e2, r, hB1⟩ : ∃ l u y lo hi, F x = some l /\ ff x = some (lsv l u y) /\ LRow w lo hi u y l.K.length l.T.length (flat2 l.K) (flat l.T) /\ hi <= B := by
        rcases SF.out x with ⟨e1, e2⟩ | h
        · rw [e1] at hsome; cases hsome
        · exact h
      obtain ⟨x1, y1, x2, y2, q1, q2⟩ := r.slice
      subst q1 q2
      have hbd := Ls.ok_bd (HF.out x l e1).2
      have hl1 : l.K.length <= 1048576 := by have := hbd.2.2.2.2.2.2.1; omega
      have hl2 : l.T.length <= 1048576 := by have := hbd.2.2.2.2.2.2.2; omega
      have z1 : H1 <= wr.heap.size := by omega
      have R1 : Hid (LRow wr H0 H1 (.slice x1 l.K.length y1) (.slice x2 l.T.length y2) l.K.length l.T.length (flat2 l.K) (flat l.T)) := Lib.hid (r.below hB (by omega))
      have HFX := Lib.hid e2
      have HE2 : Hid ((E ++ [(⟨l, .slice none 0 0, .slice none 0 0, 0, 0⟩ : Ent)]).map (·.l) = (ss.take (k + 1)).filterMap F) := Lib.hid (by rw [List.map_append, HE.out, filt_snoc hx e1]; rfl)
      have HBW := Lib.hid hB
      have hk0 : (0 : Int) <= (k : Int) := by omega
      have hk1 : (k : Int) < (n : Int) := by omega
      have hlk : (Instr.lookup 82 (.map (some m)) (.int .i64 x) false).run Try.prog wr.drew = .ok (.agg #[.int .i64 l.o, .int .i64 l.s, .int .i64 l.g, .slice x1 l.K.length y1, .slice x2 l.T.length y2]) wr.drew := by
        have h : (Instr.lookup 82 (.map (some m)) (.int .i64 x) false).run Try.prog wr.drew = .ok ((ff x).getD (.agg #[.int .i64 0, .int .i64 0, .int .i64 0, .slice none 0 0, .slice none 0 0])) wr.drew := MapI.look (w := wr.drew) (MapI.move (w' := wr.drew) SM.out (hB.block m hml)) Try.underlying82 Try.underlying3 (HZV.out _) x false
        rw [HFX.out] at h
        exact h
      clear qb qs qr qg cr fr hB g1 g2 hg3 ck0 hsome e1 e2 r hB1 hbd hx
      go_wp2_with fail
      go_region_law (first
        | (refine step_append_lies _ rfl _ _ 24 rfl ((w.heap.size + 1) + 1) 33 iL (.agg #[.int .i64 0, .int .i64 0, .int .i64 0, .slice none 0 0, .slice none 0 0]) 5 72 Try.underlying24 IL.out.1 IL.out.2.1 IL.out.2.2.1 IL.out.2.2.2 rfl (by decide) (.slice xa k xc) k (ecells E) rfl (HW.out.alloc _) ⟨w3.heap.size, 0, none⟩ 1 1 [.int .i64 l.o, .int .i64 l.s, .int .i64 l.g, .slice ra l.K.length rc, .slice sa l.T.length sc] rfl rfl (fun j u hj => cell_five_new w3 _ _ _ _ _ 33 j u hj) (ecs_one _ _ _ _ _ _ _ _ _) (by decide) (by unfold maxLen; omega) (by omega) (by have := HY.out.size; simp; omega) _ rfl ?_; intro g4 cap4 w4 hown4 hgrow4 hat4 hlt4; have HF := HY.out.app (e := ⟨l, .slice ra l.K.length rc, .slice sa l.T.length sc, wr.heap.size, w3.heap.size⟩) HR3.out (by have := HO.out.size; exact this) (Nat.le_refl _) (fun e' he' => (HO.out.row e' he').2.2) (fun k hk => (HO.out.lt hk).2) hgrow4 (by rw [HEL.out]) hown4 (by simpa using hat4); obtain ⟨⟨u4, c4⟩, f4, l4, l5, HO4⟩ := HF; have HO5 := Lib.hid HO4; have HK5 : Hid (KeptR q (w4.setCell ⟨w.heap.size + 1, 0, none⟩ (.slice (some ⟨g4, 0, none⟩) (k + 1) cap4)) (w.heap.size + 1) (.slice (some ⟨g4, 0, none⟩) (k + 1) cap4)) := Lib.hid (HKy.out.app hgrow4 (by simpa using hat4)); clear hown4 hgrow4 hat4 hlt4 HO4)
        | (go_simp; go_at_call 59; refine (icopy_any l.o l.s l.g H0 H1 _ _ _ _ l.K l.T _ rfl rfl R1.out.drew z1 hl1 hl2).mono ?_; rintro e w3 ⟨ru, rv, rfl, hr3, hb3'⟩; have hb3 := undrew hb3'; clear hb3'; have HY : Hid (OutE q w3 (w.heap.size + 1) (.slice xa k xc) E) := Lib.hid (HO.out.grow hb3); have hz3 := hb3.size; have HW : Hid (w3.ownsRow ((w.heap.size + 1) + 1) 33 5 (.slice xa k xc) k (ecells E)) := Lib.hid (by have h := HY.out.own; rw [HEL.out] at h; exact h); obtain ⟨ra, rc, sa, sc, rfl, rfl⟩ := hr3.slice; have HR3 := Lib.hid hr3; have cy := HY.out.cell; have hy := HY.out.size; have HKy : Hid (KeptR q w3 (w.heap.size + 1) (.slice xa k xc)) := Lib.hid (HK.out.grow hb3); clear hb3 hr3))
      all_goals
        clear HY HW HR3 hz3 cy hy
        go_wp2_with fail
        go_roundw
        case rel => exact ⟨k + 1, _, _, by omega, by go_num, HO5, Lib.hid (by rw [List.map_append]; have h := HE2.out; rw [List.map_append] at h; exact h), Lib.hid (by rw [List.length_append, HEL.out]; rfl), HK5⟩
        case measure => simp [intOf]; omega
    · have hge : ¬ ((k : Int) < (n : Int)) := by omega
      obtain rfl : k = n := by omega
      have HZ : Hid (DRow wr (w.heap.size + 1 + 1) wr.heap.size (.slice xa k xc) (ss.filterMap F)) := Lib.hid (by
        have h := HO.out.row_ (by rw [HEL.out]; omega)
        rw [HE.out, HW0.out.2.2, List.take_length] at h
        have e := HW0.out.2.2
        rw [<- e] at h
        exact h)
      have HB := Lib.hid hB
      have HSS := HS
      clear hB qb qs qr qg
      go_wp2
      refine bodyPost_ret (v := .agg #[.slice xa k xc]) (by simp [results, Try.results52, go_sem, *]) rfl (idbP _ ss rfl HSS.out.1 HSS.out.2 ?_ ?_)
      · exact ((HZ.out.setCell (.inl (by simp <;> omega)) _).wide (by omega) (by simp [World.setCell]))
      · exact (HB.out.setCell (by simp <;> omega) _)
theorem filt_id {f : Ls -> Option Ls} : ∀ (D : List Ls), (∀ l ∈ D, f l = some l) -> D.filterMap f = D
  | [], _ => rfl
  | a :: r, h => by rw [List.filterMap_cons, h a (by simp), filt_id r (fun l hl => h l (by simp [hl]))]
theorem filt_dfind {D : List Ls} (h : dokB D = true) {S : List Int} (h1 : S.Pairwise (· < ·)) (h2 : ∀ x, x ∈ S ↔ (dfind D x).isSome = true) : S.filterMap (dfind D) = D := by
  have hs : (D.map (·.o)).Pairwise (· < ·) := by
    rw [List.pairwise_map]
    exact List.pairwise_iff_getElem.2 fun i j hi hj hij => dokB_lt h j i _ _ hij (List.getElem?_eq_getElem hi) (List.getElem?_eq_getElem hj)
  have hm : ∀ x, x ∈ D.map (·.o) ↔ (dfind D x).isSome = true := fun x => by
    rw [List.mem_map]
    constructor
    · rintro ⟨l, hl, rfl⟩
      obtain ⟨i, hi⟩ := List.getElem?_of_mem hl
      rw [dfind_at h hi]; rfl
    · intro hx
      obtain ⟨l, hl⟩ := Option.isSome_iff_exists.1 hx
      obtain ⟨e, i, hi⟩ := dfind_some hl
      exact ⟨l, List.mem_of_getElem? hi, e⟩
  have hp : S.Perm (D.map (·.o)) := (List.perm_ext_iff_of_nodup (h1.imp fun h e => by omega) (hs.imp fun h e => by omega)).2 fun x => (h2 x).trans (hm x).symm
  have he : S = D.map (·.o) := hp.eq_of_pairwise (le := fun a b => a < b) (fun a b _ _ h1 h2 => by omega) h1 hs
  rw [he, List.filterMap_map]
  have hc : ∀ l ∈ D, (dfind D ∘ (·.o)) l = some l := fun l hl => by
    obtain ⟨i, hi⟩ := List.getElem?_of_mem hl
    exact dfind_at h hi
  exact filt_id D hc
end Go.Proofs.Ytfpafjdakipccaa
