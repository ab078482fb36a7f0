/- What an argument of the laws is. -/
import Derived.ProofKit
import Derived.Below
import Derived.Carry
import Derived.Test.YtfpafjdakipccaaRows
import Derived.Test.YtfpafjdakipccaaGz
import Derived.Test.YtfpafjdakipccaaGd
namespace Go.Proofs.Ytfpafjdakipccaa
open Go.ChangeShapes Go.WideShapes Go.ChangeAt Go.RowKit Go.Joins
open Go.ChangeShapes Go.WideShapes Go.ChangeAt Go.RowKit
section
variable {H : Type} {enc : TypeId × Value -> H} {P : Program}
theorem all_stay (hl : laidOutB P = true) {W W' : World} (hb : Below W.heap.size W W') :
    ∀ (ts : List TypeId) (vs : List Value) (ds : List (DataW H)) (ps : List MemPlace), (∀ t ∈ ts, P.readableRec t = true /\ t < P.types.size) -> (∀ x ∈ ps, x.block < W.heap.size) ->
      DataW.TrodAll enc P W 0 (fun _ => true) true ts vs ds ps -> DataW.TrodAll enc P W' 0 (fun b => decide (b < W.heap.size)) true ts vs ds ps
  | [], [], [], _, _, _, h => h
  | t :: ts, v :: vs, d :: ds, ps, hr, hlt, ⟨p, q, h1, h2, e⟩ =>
    ⟨p, q, Below.trod hl (hr t List.mem_cons_self).1 (hr t List.mem_cons_self).2 h1 hb (fun x hx => hlt x (by rw [e]; exact List.mem_append_left _ hx)),
      all_stay hl hb ts vs ds q (fun t ht => hr t (List.mem_cons_of_mem _ ht)) (fun x hx => hlt x (by rw [e]; exact List.mem_append_right _ hx)) h2, e⟩
  | [], [], _ :: _, _, _, _, h => h.elim
  | [], _ :: _, _, _, _, _, h => h.elim
  | _ :: _, [], _, _, _, _, h => h.elim
  | _ :: _, _ :: _, [], _, _, _, h => h.elim
theorem law_post {f : Func} {s : ChangeSpec} {W W' : World} {args : Array Value} {ds gs : List (DataW H)} {before : List MemPlace} {t : TypeId}
    (hl : laidOutB P = true) (hr : ∀ u ∈ f.params.toList, P.readableRec u = true /\ u < P.types.size) (hv : s.vars = []) (hrt : f.resultTypes = #[t]) (hu : P.underlying t = some .bool)
    (hW : DataW.Whole enc P f.params.toList s.vars false W args.toList ds gs before)
    (hfn : s.fn H ds = { results := [.lit (.bool true)], args := ds }) (hb : Below W.heap.size W W') :
    s.post enc P f false true false false W args (.bool true) W' := by
  have hlt : ∀ x ∈ before, x.block < W.heap.size := fun x hx => hW.lt x hx
  have hW0 := hW
  obtain ⟨p, q, hA, hV, e, hz, hn⟩ := hW
  rw [hv] at hV
  obtain ⟨rfl, rfl⟩ := trodVars_none hV
  rw [List.append_nil] at e
  subst e
  refine ⟨ds, [], before, [], before, [], hW0, ?_, ?_, ?_, hb.frame _, fun h => by cases h⟩
  · rw [List.append_nil, hfn, hrt]; exact trodAll_mk1 (shut_bool hu true)
  · rw [List.append_nil, hfn]; exact all_stay hl hb _ _ _ _ hr hlt hA
  · rw [List.append_nil, hfn, hv]; rfl
end
theorem Try.own : ownKnob Try.prog.godebug = none := by kernel_rfl
theorem Try.laidOut : laidOutB Try.prog = true := by kernel_rfl
theorem Try.cells3 : Try.prog.cellsOf 3 = 1 := by kernel_rfl
theorem Try.intTy128 : intTy Try.prog 3 128 = true := by kernel_rfl
theorem Try.cells128 : Try.prog.cellsOf 128 = 2 := by kernel_rfl
theorem Try.intTy132 : intTy Try.prog 3 132 = true := by kernel_rfl
theorem Try.cells132 : Try.prog.cellsOf 132 = 3 := by kernel_rfl
theorem Try.cells53 : Try.prog.cellsOf 53 = 5 := by kernel_rfl
theorem Try.read53 : Try.prog.readableRec 53 = true /\ 53 < Try.prog.types.size := ⟨by kernel_rfl, of_decide_eq_true (by kernel_rfl)⟩
theorem Try.cells50 : Try.prog.cellsOf 50 = 1 := by kernel_rfl
theorem Try.cells51 : Try.prog.cellsOf 51 = 1 := by kernel_rfl
theorem Try.fields53 : ∃ f0 f1 f2 f3 f4, Try.prog.underlying 53 = some (.struct #[f0, f1, f2, f3, f4]) /\ (f0.type = 3 /\ f0.offset = 0) /\ (f1.type = 3 /\ f1.offset = 1) /\ (f2.type = 3 /\ f2.offset = 2) /\ (f3.type = 50 /\ f3.offset = 3) /\ (f4.type = 51 /\ f4.offset = 4) := ⟨_, _, _, _, _, Try.underlying53, ⟨rfl, rfl⟩, ⟨rfl, rfl⟩, ⟨rfl, rfl⟩, ⟨rfl, rfl⟩, ⟨rfl, rfl⟩⟩
set_option maxRecDepth 100000 in
theorem open_Lsa {H : Type} {enc : TypeId × Value -> H} {W : World} {base : Nat} {v : Value} {d : DataW H} {p : List MemPlace} {r : Reach} {b : Nat}
    (hv : Value.okWide Try.prog W r base 53 v) (h : DataW.Trod enc Try.prog W b (fun _ => true) true 53 v d p) : ∃ o s g u x n m Y Z, v = .agg #[.int .i64 o, .int .i64 s, .int .i64 g, u, x] /\ I64 o /\ I64 s /\ I64 g /\ LArg W u x n m Y Z := by
  obtain ⟨f0, f1, f2, f3, f4, hu, ⟨t0, o0⟩, ⟨t1, o1⟩, ⟨t2, o2⟩, ⟨t3, o3⟩, ⟨t4, o4⟩⟩ := Try.fields53
  obtain ⟨cs, rfl, hsz⟩ := okWide_struct hu hv
  rw [Try.cells53] at hsz
  obtain ⟨fuel, hf⟩ := h
  obtain ⟨xs, n, _, _, hlen, hxs, hfs⟩ := DataW.trod_struct hu hf
  have h0 := hfs 0 f0 rfl
  have h1 := hfs 1 f1 rfl
  have h2 := hfs 2 f2 rfl
  have h3 := hfs 3 f3 rfl
  have h4 := hfs 4 f4 rfl
  rw [t0, o0, Try.cells3] at h0
  rw [t1, o1, Try.cells3] at h1
  rw [t2, o2, Try.cells3] at h2
  rw [t3, o3, Try.cells50] at h3
  rw [t4, o4, Try.cells51] at h4
  obtain ⟨cl⟩ := cs
  match cl, hsz with
  | [c0, c1, c2, c3, c4], _ =>
    have hx : xs.length = 5 := by rw [hxs]; simp
    rw [List.getElem?_eq_getElem (by omega)] at h0
    rw [List.getElem?_eq_getElem (by omega)] at h1
    rw [List.getElem?_eq_getElem (by omega)] at h2
    rw [List.getElem?_eq_getElem (by omega)] at h3
    rw [List.getElem?_eq_getElem (by omega)] at h4
    obtain ⟨z0, e0, i0⟩ := trod_ints 1 3 _ _ _ (by kernel_rfl) h0 0 c0 (by simp [Value.cells])
    obtain ⟨z1, e1, i1⟩ := trod_ints 1 3 _ _ _ (by kernel_rfl) h1 0 c1 (by simp [Value.cells])
    obtain ⟨z2, e2, i2⟩ := trod_ints 1 3 _ _ _ (by kernel_rfl) h2 0 c2 (by simp [Value.cells])
    obtain ⟨sv, n', Y, hcs, hA⟩ := open_islice Try.underlying50 Try.intTy128 Try.cells128 (by decide) h3
    obtain ⟨sw, m', Z, hcs', hA'⟩ := open_islice Try.underlying51 Try.intTy132 Try.cells132 (by decide) h4
    have : c3 = sv := by simpa [Value.cells] using hcs
    have : c4 = sw := by simpa [Value.cells] using hcs'
    subst c3 c4 e0 e1 e2
    exact ⟨z0, z1, z2, sv, sw, n', m', Y, Z, rfl, i0, i1, i2, hA, hA'⟩
theorem Try.cells40 : Try.prog.cellsOf 40 = 1 := by kernel_rfl
theorem Try.read40 : Try.prog.readableRec 40 = true /\ 40 < Try.prog.types.size := ⟨by kernel_rfl, of_decide_eq_true (by kernel_rfl)⟩
theorem Try.cells38 : Try.prog.cellsOf 38 = 1 := by kernel_rfl
theorem Try.fields40 : ∃ f0, Try.prog.underlying 40 = some (.struct #[f0]) /\ (f0.type = 38 /\ f0.offset = 0) := ⟨_, Try.underlying40, ⟨rfl, rfl⟩⟩
set_option maxRecDepth 100000 in
theorem trod_Lsa {H : Type} {enc : TypeId × Value -> H} {W : World} {sp : Nat -> Bool} {held : Bool} {b fuel : Nat} {cs : List Value} {x : DataW H × List MemPlace}
    (hf : DataW.trod enc Try.prog W b sp held fuel 53 cs = some x) : ∃ (l : Ls) (u y : Value), cs = [.int .i64 l.o, .int .i64 l.s, .int .i64 l.g, u, y] /\ LArgL W u y l := by
  obtain ⟨f0, f1, f2, f3, f4, hu, ⟨t0, o0⟩, ⟨t1, o1⟩, ⟨t2, o2⟩, ⟨t3, o3⟩, ⟨t4, o4⟩⟩ := Try.fields53
  obtain ⟨xs, n, _, _, hsz, hxs, hfs⟩ := DataW.trod_struct hu hf
  rw [Try.cells53] at hsz
  have h0 := hfs 0 f0 rfl
  have h1 := hfs 1 f1 rfl
  have h2 := hfs 2 f2 rfl
  have h3 := hfs 3 f3 rfl
  have h4 := hfs 4 f4 rfl
  rw [t0, o0, Try.cells3] at h0
  rw [t1, o1, Try.cells3] at h1
  rw [t2, o2, Try.cells3] at h2
  rw [t3, o3, Try.cells50] at h3
  rw [t4, o4, Try.cells51] at h4
  match cs, hsz with
  | [c0, c1, c2, c3, c4], _ =>
    have hx : xs.length = 5 := by rw [hxs]; simp
    rw [List.getElem?_eq_getElem (by omega)] at h0
    rw [List.getElem?_eq_getElem (by omega)] at h1
    rw [List.getElem?_eq_getElem (by omega)] at h2
    rw [List.getElem?_eq_getElem (by omega)] at h3
    rw [List.getElem?_eq_getElem (by omega)] at h4
    obtain ⟨z0, e0, i0⟩ := trod_ints 1 3 _ _ _ (by kernel_rfl) h0 0 c0 (by simp)
    obtain ⟨z1, e1, i1⟩ := trod_ints 1 3 _ _ _ (by kernel_rfl) h1 0 c1 (by simp)
    obtain ⟨z2, e2, i2⟩ := trod_ints 1 3 _ _ _ (by kernel_rfl) h2 0 c2 (by simp)
    obtain ⟨sv, n', Y, hcs, hA⟩ := open_islice Try.underlying50 Try.intTy128 Try.cells128 (by decide) h3
    obtain ⟨sw, m', Z, hcs', hA'⟩ := open_islice Try.underlying51 Try.intTy132 Try.cells132 (by decide) h4
    have : c3 = sv := by simpa using hcs
    have : c4 = sw := by simpa using hcs'
    subst c3 c4 e0 e1 e2
    refine ⟨⟨z0, z1, z2, lks Y n', eds Z m'⟩, sv, sw, rfl, Y, Z, ?_, ?_, ?_⟩
    · show LArg W sv sw (lks Y n').length (eds Z m').length Y Z
      rw [lks_len, eds_len]; exact ⟨hA, hA'⟩
    · show (List.range ((lks Y n').length * 2)).map Y = flat2 (lks Y n')
      rw [lks_len, flat2_lks]
    · show (List.range ((eds Z m').length * 3)).map Z = flat (eds Z m')
      rw [eds_len, flat_eds]
theorem choose3 {α β γ : Type} [Inhabited α] [Inhabited β] [Inhabited γ] {n : Nat} {p : Nat -> α -> β -> γ -> Prop} (h : ∀ i, i < n -> ∃ a b c, p i a b c) : ∃ (f : Nat -> α) (g : Nat -> β) (k : Nat -> γ), ∀ i, i < n -> p i (f i) (g i) (k i) := by
  have h' : ∀ i, i < n -> ∃ z : α × β × γ, p i z.1 z.2.1 z.2.2 := fun i hi => by obtain ⟨a, b, c, hp⟩ := h i hi; exact ⟨(a, b, c), hp⟩
  obtain ⟨F, hF⟩ := Deep.choose_lt h'
  exact ⟨fun i => (F i).1, fun i => (F i).2.1, fun i => (F i).2.2, hF⟩
instance : Inhabited Ls := ⟨l0⟩
theorem trod_LsaS {H : Type} {enc : TypeId × Value -> H} {W : World} {sp : Nat -> Bool} {held : Bool} {b fuel : Nat} {cs : List Value} {x : DataW H × List MemPlace}
    (h : DataW.trod enc Try.prog W b sp held fuel 38 cs = some x) : ∃ v D, cs = [v] /\ DArg W v D := by
  rcases Deep.open_slice Try.underlying38 h with ⟨rfl, _⟩ | ⟨a, len, cap, m, n, E, Pl, rfl, hb, hl, hm, hmm, _, hel⟩
  · exact ⟨_, [], rfl, Nat.zero_le _, .inl ⟨rfl, none, 0, rfl⟩⟩
  · have hlm : len <= m := by rw [hmm]; split <;> omega
    have hcell : ∀ i, i < len -> ∃ (l : Ls) (u y : Value), (∀ j, j < 5 -> W.cell? (a.add (i * 5 + j)) = [.int .i64 l.o, .int .i64 l.s, .int .i64 l.g, u, y][j]?) /\ LArgL W u y l := by
      intro i hi
      obtain ⟨cs', hc, htr⟩ := hel i (by omega)
      rw [Try.cells53] at hc
      obtain ⟨_, hcl, hat⟩ := World.cells?_some hc
      obtain ⟨l, u, y, rfl, hL⟩ := trod_Lsa htr
      refine ⟨l, u, y, fun j hj => ?_, hL⟩
      have := hat j hj
      rw [Deep.add_add] at this
      exact this
    obtain ⟨fl, fu, fy, hF⟩ := choose3 hcell
    refine ⟨_, (List.range len).map fl, rfl, by simp; omega, ?_⟩
    by_cases h0 : len = 0
    · subst h0; exact .inl ⟨rfl, _, _, rfl⟩
    · have h00 := (hF 0 (by omega)).1 0 (by omega)
      obtain ⟨hlt, hsp⟩ := lt_of_cell (v := .int .i64 (fl 0).o) h00
      obtain ⟨bb, off, spot⟩ := a
      simp [Addr.add] at hlt hsp
      subst hsp
      have hcs : ∀ q, Addr.add ⟨bb, off, none⟩ q = ⟨bb, off + q, none⟩ := fun q => by
        unfold Addr.add
        split
        · rename_i e; subst e; simp
        · rfl
      refine .inr ⟨bb, off, cap, by simp, hlt, fu, fy, fun i l hi => ?_⟩
      have hil : i < len := by have := (List.getElem?_eq_some_iff.1 hi).1; simpa using this
      rw [List.getElem?_map, List.getElem?_range hil] at hi
      obtain rfl := Option.some.inj hi
      obtain ⟨h1, h2⟩ := hF i hil
      have c0 := h1 0 (by omega)
      have c1 := h1 1 (by omega)
      have c2 := h1 2 (by omega)
      have c3 := h1 3 (by omega)
      have c4 := h1 4 (by omega)
      rw [hcs] at c0 c1 c2 c3 c4
      exact ⟨⟨by simpa using c0, by rw [Nat.add_assoc]; exact c1, by rw [Nat.add_assoc]; exact c2, by rw [Nat.add_assoc]; exact c3, by rw [Nat.add_assoc]; exact c4⟩, h2⟩
set_option maxRecDepth 100000 in
theorem open_Db {H : Type} {enc : TypeId × Value -> H} {W : World} {base : Nat} {v : Value} {d : DataW H} {p : List MemPlace} {r : Reach} {b : Nat}
    (hv : Value.okWide Try.prog W r base 40 v) (h : DataW.Trod enc Try.prog W b (fun _ => true) true 40 v d p) : ∃ u D, v = .agg #[u] /\ DArg W u D := by
  obtain ⟨f0, hu, ⟨t0, o0⟩⟩ := Try.fields40
  obtain ⟨cs, rfl, hsz⟩ := okWide_struct hu hv
  rw [Try.cells40] at hsz
  obtain ⟨fuel, hf⟩ := h
  obtain ⟨xs, n, _, _, hlen, hxs, hfs⟩ := DataW.trod_struct hu hf
  have h0 := hfs 0 f0 rfl
  rw [t0, o0, Try.cells38] at h0
  obtain ⟨cl⟩ := cs
  match cl, hsz with
  | [c0], _ =>
    have hx : xs.length = 1 := by rw [hxs]; simp
    rw [List.getElem?_eq_getElem (by omega)] at h0
    obtain ⟨v, D, hcs, hA⟩ := trod_LsaS h0
    have : c0 = v := by simpa [Value.cells] using hcs
    subst this
    exact ⟨c0, D, rfl, hA⟩
end Go.Proofs.Ytfpafjdakipccaa
