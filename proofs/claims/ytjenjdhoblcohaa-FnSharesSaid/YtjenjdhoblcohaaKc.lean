/- CountWays of the program. -/
import Derived.OrdersIn
import Derived.OrdersHeld
import Derived.TacticsIn
import Derived.Lib.Hide
import Derived.Test.YtjenjdhoblcohaaReg
import Derived.RangeFuncNested
import Derived.RangeFuncBound
import Derived.RangeFuncCalls
import Derived.RangeFuncLeaves
import Derived.OwnWalkIn
import Derived.Test.YtjenjdhoblcohaaW26
import Derived.Test.YtjenjdhoblcohaaTl
import Derived.Test.YtjenjdhoblcohaaMp
import Derived.Shelf.Abstract
import Derived.Shelf.RegionOpen
import Derived.WalkKit
import Derived.TacticsInMore
import Derived.LoopNIn
import Derived.LoopIn
import Derived.Test.YtjenjdhoblcohaaWi
namespace Go.Proofs.Ytjenjdhoblcohaa
open Go.RowKit
open Go.Shelf
open Go.RowKit Go.Shelf

section
variable {F : Fence} {n : Nat} {P : Program} {ops : Array Oper} {Q : Exit → Act → World → Prop} {md : Region.Mode} {S : World → Prop}
/-- It yields v in every world that meets S, and is about to make no call there. -/
def YS (P : Program) (ops : Array Oper) (S : World → Prop) (o : Oper) (v : Value) (a : Act) : Prop := YieldsIf P ops S o v a ∧ ∀ w, o.about P w a.eval = none
theorem YS.op {i : Nat} {o : Oper} {v : Value} {a : Act} (hro : F.round = none) (hi : ops[i]? = some o) (hy : YS P ops S o v a) {K : Act → World → Prop} {w : World} (hS : S w) (h : K (a.put o.dst v) w) : wpOpIn F n P ops Q i K a w := by
  unfold Go.wpOpIn
  simp only [hi]
  have hab : ∀ f, o.about P w a.eval = some f → F.fn f := fun f hf => by rw [hy.2 w] at hf; cases hf
  rcases hy.1 with ⟨hw, hv⟩ | ⟨hw, rfl⟩
  · simp only [hw, if_true, Oper.wpIn, hro, Oper.semAt_none, hv w hS, Oper.uponIn]; exact ⟨hab, h⟩
  · simp only [hw, Bool.false_eq_true, if_false]; exact ⟨hab, h⟩
theorem YS.same {o : Oper} {v : Value} {a a' : Act} (hy : YS P ops S o v a) (he : execOp a'.eval o = execOp a.eval o) (hw : Region.wanted o (yielded ops a'.tmps) = Region.wanted o (yielded ops a.tmps)) (hb : ∀ w, o.about P w a'.eval = o.about P w a.eval) : YS P ops S o v a' :=
  ⟨hy.1.of_same he hw, fun w => by rw [hb w]; exact hy.2 w⟩
theorem ys_put {j : Nat} {oi oj : Oper} {v : Value} (hro : F.round = none) (hj : ops[j]? = some oj) (hap : oi.apart ops oj = true) (hsi : ∀ cs b, oi.op ≠ .select cs b) (hsj : ∀ cs b, oj.op ≠ .select cs b)
    (hQ : ∀ c a w, Q (.panic c) (a.put oi.dst v) w → Q (.panic c) a w) {K : Act → World → Prop} {a : Act} {w : World} (hy : YS P ops S oi v a) (h : wpOpIn F n P ops Q j K (a.put oi.dst v) w) :
    wpOpIn F n P ops Q j (fun a' w' => YS P ops S oi v a' ∧ K (a'.put oi.dst v) w') a w := by
  obtain ⟨h1, h2, h3⟩ := Oper.apart_spec hap
  have keep : ∀ (a : Act), YS P ops S oi v a → ∀ u, YS P ops S oi v (a.put oj.dst u) := fun a hy u => hy.same (execOp_put oi hsi a oj.dst u h3) (wanted_put oi a oj.dst u h3) (fun w => about_put oi w a oj.dst u h3)
  have keepD : ∀ d, YS P ops S oi v { a with defers := d :: a.defers } := fun d => hy.same rfl rfl (fun _ => rfl)
  unfold wpOpIn at *
  simp only [hj] at *
  rw [wanted_put oj a oi.dst v h1, about_put oj w a oi.dst v h1] at h
  split
  · rename_i hw
    simp only [hw, if_true] at h
    unfold Oper.wpIn at *
    rw [about_put oj w a oi.dst v h1] at h
    refine ⟨h.1, ?_⟩
    have h := h.2
    rw [hro, Oper.semAt_none, execOp_put oj hsj a oi.dst v h1] at h
    rw [hro, Oper.semAt_none]
    generalize (execOp a.eval oj).run P w = r at *
    cases r with
    | ok x w' =>
      cases x <;> simp only [Oper.uponIn] at h ⊢
      case value u => exact ⟨keep a hy u, by rw [← Act.put_comm a v u h2]; exact h⟩
      case skip => exact ⟨keep a hy _, by rw [← Act.put_comm a v undef h2]; exact h⟩
      case defer d =>
        refine ⟨keep _ (keepD d) _, ?_⟩
        rw [← Act.put_comm _ v undef h2, ← Act.put_defers]
        exact h
      case enter f args =>
        refine ⟨h.1, CallsIn.mono h.2 fun e w'' he => ?_⟩
        cases e with
        | returned u => exact ⟨keep a hy u, by rw [← Act.put_comm a v u h2]; exact he⟩
        | panicked c => exact hQ _ _ _ he
        | outgrown => exact he
      case row row args => exact ⟨h.1, RowsIn.mono h.2 fun u w'' he => ⟨keep a hy u, by rw [← Act.put_comm a v u h2]; exact he⟩⟩
      case round l f tmps assign body =>
        refine ⟨h.1, RoundIn.mono h.2 fun e w'' he => ?_⟩
        cases e with
        | returned u => exact ⟨keep a hy u, by rw [← Act.put_comm a v u h2]; exact he⟩
        | panicked c => exact hQ _ _ _ he
        | outgrown => exact he
    | halt x w' =>
      cases x <;> simp only [Oper.uponIn] at h ⊢
      case panic u => exact hQ _ _ _ h
  · rename_i hw
    simp only [hw] at h
    exact ⟨h.1, keep a hy _, by rw [← Act.put_comm a v undef h2]; exact h.2⟩
/-- Whatever order is picked, and S holds behind every operation that is carried out. -/
def wpHIn (F : Fence) (n : Nat) (P : Program) (md : Region.Mode) (ops : Array Oper) (Q : Exit → Act → World → Prop) (S : World → Prop) : Nat → Array Bool → Act → World → Prop
  | 0, listed, a, w => Region.ready md ops listed = [] ∧ Q .normal a w
  | fuel + 1, listed, a, w => (Region.ready md ops listed = [] → Q .normal a w) ∧ ∀ i ∈ Region.ready md ops listed, wpOpIn F n P ops Q i (fun a' w' => S w' ∧ wpHIn F n P md ops Q S fuel (listed.setIfInBounds i true) a' w') a w
theorem wpHIn_any : ∀ (fuel : Nat) (listed : Array Bool) (a : Act) (w : World), wpHIn F n P md ops Q S fuel listed a w → wpAnyIn F n P md ops Q fuel listed a w
  | 0, _, _, _, h => h
  | fuel + 1, _, _, _, h => ⟨h.1, fun i hi => wpOpIn_mono (fun a' w' h' => wpHIn_any fuel _ a' w' h'.2) (h.2 i hi)⟩
theorem wpHIn_first {i : Nat} {oi : Oper} {v : Value} (hro : F.round = none) (hi : ops[i]? = some oi) (hsel : ∀ (j : Nat) (o : Oper) cs b, ops[j]? = some o → o.op ≠ .select cs b)
    (hQ : ∀ c a w, Q (.panic c) (a.put oi.dst v) w → Q (.panic c) a w) :
    ∀ (fuel : Nat) (listed : Array Bool) (a : Act) (w : World),
      (∀ j oj, ops[j]? = some oj → j ≠ i → listed.getD j true = false → (∀ e ∈ oj.after, Region.binds md e = true → e.on ≠ i) → oi.apart ops oj = true) →
      i ∈ Region.ready md ops listed → YS P ops S oi v a → S w →
      wpHIn F n P md ops Q S fuel (listed.setIfInBounds i true) (a.put oi.dst v) w → wpHIn F n P md ops Q S (fuel + 1) listed a w := by
  intro fuel
  induction fuel with
  | zero =>
    intro listed a w _ hr hy hS H
    refine ⟨fun h => (by rw [h] at hr; cases hr), fun j hj => ?_⟩
    by_cases hji : j = i
    · subst hji; exact hy.op hro hi hS ⟨hS, H⟩
    · have := ready_mono hj hji
      rw [H.1] at this
      cases this
  | succ fuel ih =>
    intro listed a w hfree hr hy hS H
    refine ⟨fun h => (by rw [h] at hr; cases hr), fun j hj => ?_⟩
    by_cases hji : j = i
    · subst hji; exact hy.op hro hi hS ⟨hS, H⟩
    · have h1 := H.2 j (ready_mono hj hji)
      obtain ⟨hjun, oj, hoj, hall⟩ := mem_ready.1 hj
      have hnot : ∀ e ∈ oj.after, Region.binds md e = true → e.on ≠ i := fun e he hb heq => by
        have h1 := hall e he hb
        have h0 := (mem_ready.1 hr).1
        rw [heq] at h1
        rcases Nat.lt_or_ge i listed.size with h' | h'
        · simp [h'] at h0 h1; rw [h0] at h1; cases h1
        · simp [Array.getElem?_eq_none h'] at h1
      have h2 := ys_put hro hoj (hfree j oj hoj hji hjun hnot) (fun cs b => hsel i oi cs b hi) (fun cs b => hsel j oj cs b hoj) hQ hy h1
      have hfree' : ∀ k ok, ops[k]? = some ok → k ≠ i → (listed.setIfInBounds j true).getD k true = false →
          (∀ e ∈ ok.after, Region.binds md e = true → e.on ≠ i) → oi.apart ops ok = true := fun k ok hk hki hun hno => by
        refine hfree k ok hk hki ?_ hno
        by_cases hjk : j = k
        · subst hjk; exact hjun
        · rw [getD_set_ne true hjk] at hun; exact hun
      refine wpOpIn_mono (fun a' w' h3 => ⟨h3.2.1, ih (listed.setIfInBounds j true) a' w' hfree' (ready_mono hr (Ne.symm hji)) h3.1 h3.2.1 ?_⟩) h2
      rw [Array.setIfInBounds_comm _ _ hji]
      exact h3.2.2
theorem wpHIn_take {i : Nat} {oi : Oper} {v : Value} {fuel : Nat} {listed : Array Bool} {a : Act} {w : World} (hro : F.round = none) (hi : ops[i]? = some oi)
    (hs : Region.noSelect ops = true) (hf : Region.free md ops listed i = true) (hr : (Region.ready md ops listed).contains i = true)
    (hQ : ∀ c a w, Q (.panic c) (a.put oi.dst v) w → Q (.panic c) a w) (hy : YS P ops S oi v a) (hS : S w)
    (h : wpHIn F n P md ops Q S fuel (listed.setIfInBounds i true) (a.put oi.dst v) w) : wpHIn F n P md ops Q S (fuel + 1) listed a w :=
  wpHIn_first hro hi (Region.noSelect_spec hs) hQ fuel listed a w (Region.free_spec hi hf) (by simpa using hr) hy hS h
theorem wpHIn_all {rs : List Nat} {fuel : Nat} {listed : Array Bool} {a : Act} {w : World} (hr : Region.ready md ops listed = rs) (hne : rs ≠ [])
    (h : ∀ i ∈ rs, wpOpIn F n P ops Q i (fun a' w' => S w' ∧ wpHIn F n P md ops Q S fuel (listed.setIfInBounds i true) a' w') a w) : wpHIn F n P md ops Q S (fuel + 1) listed a w :=
  ⟨fun h0 => absurd (hr ▸ h0) hne, hr ▸ h⟩
theorem wpHIn_done {listed : Array Bool} {a : Act} {w : World} (hr : Region.ready md ops listed = []) (h : Q .normal a w) : ∀ fuel, wpHIn F n P md ops Q S fuel listed a w
  | 0 => ⟨hr, h⟩
  | _ + 1 => ⟨fun _ => h, by rw [hr]; simp⟩
theorem wpIn_region_heldS {id : Nat} {a : Act} {w : World} (hm : P.follows .mixedOrders = true) (hS : S w.drew)
    (h : S w.drew → wpHIn F n P .any ops Q S ops.size (Array.replicate ops.size false) a w.drew) : (Code.region id ops true).wpIn F n P Q a w :=
  wpIn_region_any hm (wpHIn_any _ _ _ _ (h hS))
/-- One step of a walk: operation i is carried out next; behind it S is shown and handed on. -/
theorem wpHIn_one {i : Nat} {o : Oper} {fuel : Nat} {listed : Array Bool} {a : Act} {w : World} (ho : ops[i]? = some o)
    (h : ∀ K' : Act → World → Prop, Hid (∀ a w, S w → (S w → wpHIn F n P md ops Q S fuel (listed.setIfInBounds i true) a w) → K' a w) → if Region.wanted o (yielded ops a.tmps) = true then Oper.wpIn F n P o a w K' Q else (∀ f, o.about P w a.eval = some f → F.fn f) ∧ K' (a.put o.dst undef) w) :
    wpOpIn F n P ops Q i (fun a' w' => S w' ∧ wpHIn F n P md ops Q S fuel (listed.setIfInBounds i true) a' w') a w :=
  wpOpIn_step ho fun K' hK => h K' (Lib.hid fun a w hS hW => hK a w ⟨hS, hW hS⟩)
/-- Number i is left out by its guard. -/
theorem stepIn_skip (i d : Nat) {fuel : Nat} {listed : Array Bool} {w : World} {oi : Oper} {ts : List Value} {ds} (hro : F.round = none) (hi : ops[i]? = some oi) (hd : oi.dst = some d)
    (hs : Region.noSelect ops = true) (hf : Region.free md ops listed i = true) (hr : (Region.ready md ops listed).contains i = true)
    (hQ : ∀ c a w, Q (.panic c) (a.put oi.dst undef) w → Q (.panic c) a w) (hw : Region.wanted oi (yielded ops ts.toArray) = false) (hab : ∀ w, oi.about P w (Act.eval { tmps := ts.toArray, defers := ds }) = none) (hS : S w)
    (h : wpHIn F n P md ops Q S fuel (listed.setIfInBounds i true) { tmps := (ts.set d undef).toArray, defers := ds } w) : wpHIn F n P md ops Q S (fuel + 1) listed { tmps := ts.toArray, defers := ds } w :=
  wpHIn_take hro hi hs hf hr hQ ⟨Or.inr ⟨hw, rfl⟩, hab⟩ hS (by rw [hd, put_at]; exact h)
/-- Number i yields v in every world that meets S. -/
theorem stepIn_read (i d : Nat) {v : Value} {fuel : Nat} {listed : Array Bool} {w : World} {oi : Oper} {ts : List Value} {ds} (hro : F.round = none) (hi : ops[i]? = some oi) (hd : oi.dst = some d)
    (hs : Region.noSelect ops = true) (hf : Region.free md ops listed i = true) (hr : (Region.ready md ops listed).contains i = true)
    (hQ : ∀ c a w, Q (.panic c) (a.put oi.dst v) w → Q (.panic c) a w) (hw : Region.wanted oi (yielded ops ts.toArray) = true) (hab : ∀ w, oi.about P w (Act.eval { tmps := ts.toArray, defers := ds }) = none)
    (hy : ∀ w, S w → (execOp (Act.eval { tmps := ts.toArray, defers := ds }) oi).run P w = .ok (.value v) w) (hS : S w)
    (h : wpHIn F n P md ops Q S fuel (listed.setIfInBounds i true) { tmps := (ts.set d v).toArray, defers := ds } w) : wpHIn F n P md ops Q S (fuel + 1) listed { tmps := ts.toArray, defers := ds } w :=
  wpHIn_take hro hi hs hf hr hQ ⟨Or.inl ⟨hw, hy⟩, hab⟩ hS (by rw [hd, put_at]; exact h)
end

section
variable {F : Fence} {n : Nat} {P : Program} {ops : Array Oper} {Q : Exit → Act → World → Prop} {md : Region.Mode} {S : World → Prop}
/-- Whatever order is picked, and S holds behind every operation that is carried out and not of Y. -/
def wpHY (F : Fence) (n : Nat) (P : Program) (md : Region.Mode) (ops : Array Oper) (Q : Exit → Act → World → Prop) (S : World → Prop) (Y : List Nat) : Nat → Array Bool → Act → World → Prop
  | 0, listed, a, w => Region.ready md ops listed = [] ∧ Q .normal a w
  | fuel + 1, listed, a, w => (Region.ready md ops listed = [] → Q .normal a w) ∧ ∀ i ∈ Region.ready md ops listed, wpOpIn F n P ops Q i (fun a' w' => (Y.contains i = false → S w') ∧ wpHY F n P md ops Q S Y fuel (listed.setIfInBounds i true) a' w') a w
theorem wpHY_any {Y : List Nat} : ∀ (fuel : Nat) (listed : Array Bool) (a : Act) (w : World), wpHY F n P md ops Q S Y fuel listed a w → wpAnyIn F n P md ops Q fuel listed a w
  | 0, _, _, _, h => h
  | fuel + 1, _, _, _, h => ⟨h.1, fun i hi => wpOpIn_mono (fun a' w' h' => wpHY_any fuel _ a' w' h'.2) (h.2 i hi)⟩
/-- Nothing of T is done yet, and whatever of it is not i waits for something of it; Y lies in it. -/
def tailOk (md : Region.Mode) (ops : Array Oper) (listed : Array Bool) (Y : List Nat) (i : Nat) (T : List Nat) : Bool :=
  Y.all (fun y => T.contains y) && T.all fun k => !listed.getD k true && (k == i || match ops[k]? with | some o => o.after.toList.any (fun e => Region.binds md e && T.contains e.on) | none => false)
theorem tailOk_listed {listed : Array Bool} {Y : List Nat} {i : Nat} {T : List Nat} (h : tailOk md ops listed Y i T = true) : ∀ k ∈ T, listed.getD k true = false := fun k hk => by
  unfold tailOk at h
  rw [Bool.and_eq_true] at h
  have h1 := List.all_eq_true.1 h.2 k hk
  rw [Bool.and_eq_true] at h1
  simpa using h1.1
theorem tailOk_not {listed : Array Bool} {Y : List Nat} {i : Nat} {T : List Nat} (h : tailOk md ops listed Y i T = true) {j : Nat} (hj : j ∈ Region.ready md ops listed) (hji : j ≠ i) : j ∉ T := fun hk => by
  have hl := tailOk_listed h
  unfold tailOk at h
  rw [Bool.and_eq_true] at h
  have h1 := List.all_eq_true.1 h.2 j hk
  rw [Bool.and_eq_true] at h1
  have h2 := h1.2
  obtain ⟨_, o, ho, hall⟩ := mem_ready.1 hj
  rw [ho] at h2
  simp only [Bool.or_eq_true, beq_iff_eq, hji, false_or] at h2
  obtain ⟨e, he, hb⟩ := List.any_eq_true.1 h2
  rw [Bool.and_eq_true] at hb
  have h3 := hall e (by simpa using he) hb.1
  have h4 := hl e.on (by simpa using hb.2)
  rcases Nat.lt_or_ge e.on listed.size with h' | h'
  · simp [h'] at h3 h4; rw [h4] at h3; cases h3
  · simp [Array.getElem?_eq_none h'] at h3
theorem tailOk_set {listed : Array Bool} {Y : List Nat} {i : Nat} {T : List Nat} (h : tailOk md ops listed Y i T = true) {j : Nat} (hj : j ∉ T) : tailOk md ops (listed.setIfInBounds j true) Y i T = true := by
  unfold tailOk at *
  rw [Bool.and_eq_true] at *
  refine ⟨h.1, List.all_eq_true.2 fun k hk => ?_⟩
  have h1 := List.all_eq_true.1 h.2 k hk
  rw [Bool.and_eq_true] at *
  have hne : j ≠ k := fun e => hj (e ▸ hk)
  exact ⟨by rw [getD_set_ne true hne]; exact h1.1, h1.2⟩
theorem tailOk_Y {listed : Array Bool} {Y : List Nat} {i : Nat} {T : List Nat} (h : tailOk md ops listed Y i T = true) {j : Nat} (hj : j ∉ T) : Y.contains j = false := by
  unfold tailOk at h
  rw [Bool.and_eq_true] at h
  cases hc : Y.contains j with
  | false => rfl
  | true => exact absurd (by simpa using List.all_eq_true.1 h.1 j (by simpa using hc)) hj
theorem wpHY_first {Y T : List Nat} {i : Nat} {oi : Oper} {v : Value} (hro : F.round = none) (hi : ops[i]? = some oi) (hsel : ∀ (j : Nat) (o : Oper) cs b, ops[j]? = some o → o.op ≠ .select cs b)
    (hQ : ∀ c a w, Q (.panic c) (a.put oi.dst v) w → Q (.panic c) a w) :
    ∀ (fuel : Nat) (listed : Array Bool) (a : Act) (w : World),
      (∀ j oj, ops[j]? = some oj → j ≠ i → listed.getD j true = false → (∀ e ∈ oj.after, Region.binds md e = true → e.on ≠ i) → oi.apart ops oj = true) →
      tailOk md ops listed Y i T = true → i ∈ Region.ready md ops listed → YS P ops S oi v a → S w →
      wpHY F n P md ops Q S Y fuel (listed.setIfInBounds i true) (a.put oi.dst v) w → wpHY F n P md ops Q S Y (fuel + 1) listed a w := by
  intro fuel
  induction fuel with
  | zero =>
    intro listed a w _ hT hr hy hS H
    refine ⟨fun h => (by rw [h] at hr; cases hr), fun j hj => ?_⟩
    by_cases hji : j = i
    · subst hji; exact hy.op hro hi hS ⟨fun _ => hS, H⟩
    · have := ready_mono hj hji
      rw [H.1] at this
      cases this
  | succ fuel ih =>
    intro listed a w hfree hT hr hy hS H
    refine ⟨fun h => (by rw [h] at hr; cases hr), fun j hj => ?_⟩
    by_cases hji : j = i
    · subst hji; exact hy.op hro hi hS ⟨fun _ => hS, H⟩
    · have h1 := H.2 j (ready_mono hj hji)
      have hjT := tailOk_not hT hj hji
      obtain ⟨hjun, oj, hoj, hall⟩ := mem_ready.1 hj
      have hnot : ∀ e ∈ oj.after, Region.binds md e = true → e.on ≠ i := fun e he hb heq => by
        have h1 := hall e he hb
        have h0 := (mem_ready.1 hr).1
        rw [heq] at h1
        rcases Nat.lt_or_ge i listed.size with h' | h'
        · simp [h'] at h0 h1; rw [h0] at h1; cases h1
        · simp [Array.getElem?_eq_none h'] at h1
      have h2 := ys_put hro hoj (hfree j oj hoj hji hjun hnot) (fun cs b => hsel i oi cs b hi) (fun cs b => hsel j oj cs b hoj) hQ hy h1
      have hfree' : ∀ k ok, ops[k]? = some ok → k ≠ i → (listed.setIfInBounds j true).getD k true = false →
          (∀ e ∈ ok.after, Region.binds md e = true → e.on ≠ i) → oi.apart ops ok = true := fun k ok hk hki hun hno => by
        refine hfree k ok hk hki ?_ hno
        by_cases hjk : j = k
        · subst hjk; exact hjun
        · rw [getD_set_ne true hjk] at hun; exact hun
      refine wpOpIn_mono (fun a' w' h3 => ⟨h3.2.1, ih (listed.setIfInBounds j true) a' w' hfree' (tailOk_set hT hjT) (ready_mono hr (Ne.symm hji)) h3.1 (h3.2.1 (tailOk_Y hT hjT)) ?_⟩) h2
      rw [Array.setIfInBounds_comm _ _ hji]
      exact h3.2.2
theorem wpHY_take {Y T : List Nat} {i : Nat} {oi : Oper} {v : Value} {fuel : Nat} {listed : Array Bool} {a : Act} {w : World} (hro : F.round = none) (hi : ops[i]? = some oi)
    (hs : Region.noSelect ops = true) (hf : Region.free md ops listed i = true) (hr : (Region.ready md ops listed).contains i = true) (hT : tailOk md ops listed Y i T = true)
    (hQ : ∀ c a w, Q (.panic c) (a.put oi.dst v) w → Q (.panic c) a w) (hy : YS P ops S oi v a) (hS : S w)
    (h : wpHY F n P md ops Q S Y fuel (listed.setIfInBounds i true) (a.put oi.dst v) w) : wpHY F n P md ops Q S Y (fuel + 1) listed a w :=
  wpHY_first (T := T) hro hi (Region.noSelect_spec hs) hQ fuel listed a w (Region.free_spec hi hf) hT (by simpa using hr) hy hS h
theorem wpHY_all {Y : List Nat} {rs : List Nat} {fuel : Nat} {listed : Array Bool} {a : Act} {w : World} (hr : Region.ready md ops listed = rs) (hne : rs ≠ [])
    (h : ∀ i ∈ rs, wpOpIn F n P ops Q i (fun a' w' => (Y.contains i = false → S w') ∧ wpHY F n P md ops Q S Y fuel (listed.setIfInBounds i true) a' w') a w) : wpHY F n P md ops Q S Y (fuel + 1) listed a w :=
  ⟨fun h0 => absurd (hr ▸ h0) hne, hr ▸ h⟩
theorem wpHY_done {Y : List Nat} {listed : Array Bool} {a : Act} {w : World} (hr : Region.ready md ops listed = []) (h : Q .normal a w) : ∀ fuel, wpHY F n P md ops Q S Y fuel listed a w
  | 0 => ⟨hr, h⟩
  | _ + 1 => ⟨fun _ => h, by rw [hr]; simp⟩
theorem wpIn_region_heldY (Y : List Nat) {id : Nat} {a : Act} {w : World} (hm : P.follows .mixedOrders = true) (hS : S w.drew)
    (h : S w.drew → wpHY F n P .any ops Q S Y ops.size (Array.replicate ops.size false) a w.drew) : (Code.region id ops true).wpIn F n P Q a w :=
  wpIn_region_any hm (wpHY_any _ _ _ _ (h hS))
/-- Only number i can come up; behind it S is shown and handed on. -/
theorem stepY_one (i : Nat) {Y : List Nat} {o : Oper} {fuel : Nat} {listed : Array Bool} {a : Act} {w : World} (ho : ops[i]? = some o) (hr : Region.ready md ops listed = [i]) (hy : Y.contains i = false)
    (h : ∀ K' : Act → World → Prop, Hid (∀ a w, S w → (S w → wpHY F n P md ops Q S Y fuel (listed.setIfInBounds i true) a w) → K' a w) → if Region.wanted o (yielded ops a.tmps) = true then Oper.wpIn F n P o a w K' Q else (∀ f, o.about P w a.eval = some f → F.fn f) ∧ K' (a.put o.dst undef) w) :
    wpHY F n P md ops Q S Y (fuel + 1) listed a w :=
  wpHY_all (rs := [i]) hr (by simp) (fun j hj => by
    rw [List.mem_singleton] at hj
    subst hj
    exact wpOpIn_step ho fun K' hK => h K' (Lib.hid fun a w hS hW => hK a w ⟨fun _ => hS, hW hS⟩))
/-- Only number i can come up; S is not shown behind it. -/
theorem stepY_last (i : Nat) {Y : List Nat} {o : Oper} {fuel : Nat} {listed : Array Bool} {a : Act} {w : World} (ho : ops[i]? = some o) (hr : Region.ready md ops listed = [i]) (hy : Y.contains i = true)
    (h : ∀ K' : Act → World → Prop, Hid (∀ a w, wpHY F n P md ops Q S Y fuel (listed.setIfInBounds i true) a w → K' a w) → if Region.wanted o (yielded ops a.tmps) = true then Oper.wpIn F n P o a w K' Q else (∀ f, o.about P w a.eval = some f → F.fn f) ∧ K' (a.put o.dst undef) w) :
    wpHY F n P md ops Q S Y (fuel + 1) listed a w :=
  wpHY_all (rs := [i]) hr (by simp) (fun j hj => by
    rw [List.mem_singleton] at hj
    subst hj
    exact wpOpIn_step ho fun K' hK => h K' (Lib.hid fun a w hW => hK a w ⟨fun e => (by rw [hy] at e; cases e), hW⟩))
/-- Number i is left out by its guard. -/
theorem stepY_skip (i d : Nat) (T : List Nat) {Y : List Nat} {fuel : Nat} {listed : Array Bool} {w : World} {oi : Oper} {ts : List Value} {ds} (hro : F.round = none) (hi : ops[i]? = some oi) (hd : oi.dst = some d)
    (hs : Region.noSelect ops = true) (hf : Region.free md ops listed i = true) (hr : (Region.ready md ops listed).contains i = true) (hT : tailOk md ops listed Y i T = true)
    (hQ : ∀ c a w, Q (.panic c) (a.put oi.dst undef) w → Q (.panic c) a w) (hw : Region.wanted oi (yielded ops ts.toArray) = false) (hab : ∀ w, oi.about P w (Act.eval { tmps := ts.toArray, defers := ds }) = none) (hS : S w)
    (h : wpHY F n P md ops Q S Y fuel (listed.setIfInBounds i true) { tmps := (ts.set d undef).toArray, defers := ds } w) : wpHY F n P md ops Q S Y (fuel + 1) listed { tmps := ts.toArray, defers := ds } w :=
  wpHY_take (T := T) hro hi hs hf hr hT hQ ⟨Or.inr ⟨hw, rfl⟩, hab⟩ hS (by rw [hd, put_at]; exact h)
/-- Number i yields v in every world that meets S; all of Y come after it. -/
theorem stepY_read (i d : Nat) (T : List Nat) {Y : List Nat} {v : Value} {fuel : Nat} {listed : Array Bool} {w : World} {oi : Oper} {ts : List Value} {ds} (hro : F.round = none) (hi : ops[i]? = some oi) (hd : oi.dst = some d)
    (hs : Region.noSelect ops = true) (hf : Region.free md ops listed i = true) (hr : (Region.ready md ops listed).contains i = true) (hT : tailOk md ops listed Y i T = true)
    (hQ : ∀ c a w, Q (.panic c) (a.put oi.dst v) w → Q (.panic c) a w) (hw : Region.wanted oi (yielded ops ts.toArray) = true) (hab : ∀ w, oi.about P w (Act.eval { tmps := ts.toArray, defers := ds }) = none)
    (hy : ∀ w, S w → (execOp (Act.eval { tmps := ts.toArray, defers := ds }) oi).run P w = .ok (.value v) w) (hS : S w)
    (h : wpHY F n P md ops Q S Y fuel (listed.setIfInBounds i true) { tmps := (ts.set d v).toArray, defers := ds } w) : wpHY F n P md ops Q S Y (fuel + 1) listed { tmps := ts.toArray, defers := ds } w :=
  wpHY_take (T := T) hro hi hs hf hr hT hQ ⟨Or.inl ⟨hw, hy⟩, hab⟩ hS (by rw [hd, put_at]; exact h)
end

/-- A step: two nodes. -/
abbrev Pr := { p : Int × Int // (0 ≤ p.1 ∧ p.1 < 10) ∧ (0 ≤ p.2 ∧ p.2 < 10) ∧ p.1 ≠ p.2 }
def encP (x : Pr) : Array Value := #[.int .i64 x.1.1, .int .i64 x.1.2]
/-- What a round that goes on keeps: all cells but those of the blocks X. -/
def KpX (X : Nat → Prop) (W W' : World) : Prop := W.heap.size ≤ W'.heap.size ∧ ∀ k o, ¬ X k → W.heap[k]? = some o → o.isCells = true → W'.heap[k]? = some o
theorem KpX.t {X : Nat → Prop} {A B C : World} (h : KpX X A B) (k : KpX X B C) : KpX X A C := ⟨Nat.le_trans h.1 k.1, fun i o hi ho hc => k.2 i o hi (h.2 i o hi ho hc) hc⟩
theorem KpX.b {X : Nat → Prop} {m : Nat} (W : World) (l : Nat) (o o' : Obj) (_ : m ≤ l) (h : W.heap[l]? = some o) (hc : o.isCells = false) (_ : o.isWalk = false) : KpX X W (W.putObj l o') :=
  ⟨(grownBy_putObj' W l o').size, fun k p _ hk hp => by
    rw [(grownBy_putObj' W l o').block k (Array.getElem?_eq_some_iff.1 hk).1 (fun e => by cases e; rw [h] at hk; cases hk; rw [hc] at hp; cases hp)]; exact hk⟩
theorem blk_lt {w : World} {a : Addr} {v : Value} (h : w.cell? a = some v) : a.block < w.heap.size := by
  unfold World.cell? at h
  cases ho : w.heap[a.block]? with
  | none => simp [ho] at h
  | some o => exact (Array.getElem?_eq_some_iff.1 ho).1
theorem cells_of_cell {W : World} {p : Addr} {v : Value} (h : W.cell? p = some v) : ∃ o : Obj, W.heap[p.block]? = some o ∧ o.isCells = true := by
  unfold World.cell? at h
  cases ho : W.heap[p.block]? with
  | none => simp [ho] at h
  | some o => exact ⟨o, rfl, by cases o <;> simp_all [Obj.isCells]⟩
theorem KpX.cell {X : Nat → Prop} {W W' : World} (h : KpX X W W') {p : Addr} (hp : ¬ X p.block) {v : Value} (hv : W.cell? p = some v) : W'.cell? p = some v := by
  obtain ⟨o, ho, hc⟩ := cells_of_cell hv
  have := h.2 _ _ hp ho hc
  rw [World.cell?_of_block (w := W) (this.trans ho.symm)]
  exact hv
theorem KpX.refl (X : Nat → Prop) (W : World) : KpX X W W := ⟨Nat.le_refl _, fun _ _ _ h _ => h⟩
theorem KpX.of_grown {X : Nat → Prop} {W W' : World} {r : Option Nat} (h : W.grownBy W' r) (hr : ∀ k, r = some k → X k) : KpX X W W' :=
  ⟨h.size, fun k _ hk ho _ => (h.block k (Array.getElem?_eq_some_iff.1 ho).1 (fun e => hk (hr k e.symm))).trans ho⟩
theorem grown_of_below {W W' : World} (h : Below W.heap.size W W') : W.grownBy W' none := ⟨h.os, h.tape, h.output, h.size, fun k hk _ => h.block k hk⟩
theorem AbidesFrom.below {β : Type} {B : Nat} {J : β → World → Prop} (h : AbidesFrom B J) {s : β} {W W' : World} (hs : J s W) (hb : Below W.heap.size W W') : J s W' := h s W W' none hs (grown_of_below hb) (fun _ e => by cases e)
theorem storeIn_row {F : Fence} {n : Nat} {P : Program} {ops : Array Oper} {rest : List Oper} {o : Oper} {a : Act} {w : World} {Q : Exit → Act → World → Prop} (hgd : o.guard = none) (ty : TypeId) (x y : Operand) (ho : o.op = .store ty x y)
    (hd : o.dst = none) (g : Nat) (cells : Array Value) (hx : a.eval x = .pointer (some ⟨g, 0, none⟩)) (hy : a.eval y = .agg cells)
    (t : TypeId) (old : Array Value) (hg : w.heap[g]? = some (.cells old t (0, 0))) (hi : (P.info? ty).map (·.size) = some cells.size)
    (hold : old.size = cells.size) (h1 : cells.all (·.oneCell') = true)
    (h : wpListIn F n P ops Q rest a (w.setRow g cells)) : wpListIn F n P ops Q (o :: rest) a w := by
  refine wpListIn_plain hgd fun K hK => ?_
  unfold Oper.wpIn
  refine ⟨?_, ?_⟩
  · simp [Oper.about, ho]
  · rw [Oper.semAt_plain F _ _ (by rw [ho]; intro c hc'; cases hc')]
    simp only [execOp, ho, hx, hy, Instr.storeAt, Instr.sureAddr, Sem.run_bind, Sem.run_pure, Result.andThen_ok, run_storeVar_row w g t ty old cells hg hi hold h1, Oper.uponIn]
    rw [hd]
    exact hK _ _ h
/-- What the iterator reads between two rounds: the costs, the trails, their last nodes; all of it lies at or beyond B. -/
structure ItM (wr : World) (B bc g : Nat) (L : List Ed) (P : List TV) : Prop where
  lo : B ≤ bc ∧ B ≤ g
  cs : ∀ x y : Nat, x < 10 → y < 10 → wr.cell? ⟨bc, x * 10 + y, none⟩ = some (.int .i64 (cst L x y))
  tr : ∀ (k : Nat) (t : TV), P[k]? = some t → wr.cell? ⟨g, k * 2, none⟩ = some (.int .i64 t.c) ∧ wr.cell? ⟨g, k * 2 + 1, none⟩ = some (.slice (some ⟨t.g, 0, none⟩) t.ns.length t.cap)
  la : ∀ (k : Nat) (t : TV), P[k]? = some t → B ≤ t.g ∧ 0 < t.ns.length ∧ t.ns.length ≤ 1000 ∧ wr.cell? ⟨t.g, t.ns.length - 1, none⟩ = some (.int .i64 (lastN t.key))
theorem ItM.keep {w w' : World} {B bc g : Nat} {L : List Ed} {P : List TV} (h : ItM w B bc g L P) (hk : ∀ (p : Addr) (v : Value), B ≤ p.block → w.cell? p = some v → w'.cell? p = some v) : ItM w' B bc g L P :=
  ⟨h.lo, fun x y hx hy => hk _ _ h.lo.1 (h.cs x y hx hy), fun k t ht => ⟨hk _ _ h.lo.2 (h.tr k t ht).1, hk _ _ h.lo.2 (h.tr k t ht).2⟩, fun k t ht => ⟨(h.la k t ht).1, (h.la k t ht).2.1, (h.la k t ht).2.2.1, hk _ _ (h.la k t ht).1 (h.la k t ht).2.2.2⟩⟩
theorem ItM.below {w w' : World} {B bc g : Nat} {L : List Ed} {P : List TV} (h : ItM w B bc g L P) (hb : Below w.heap.size w w') : ItM w' B bc g L P :=
  h.keep fun _ _ _ hv => (hb.cell (blk_lt hv)).trans hv
theorem ItM.kp {w w' : World} {B bc g : Nat} {L : List Ed} {P : List TV} {X : Nat → Prop} (h : ItM w B bc g L P) (hb : KpX X w w') (hX : ∀ k, X k → k < B) : ItM w' B bc g L P :=
  h.keep fun _ _ hp hv => hb.cell (fun hx => by have := hX _ hx; omega) hv
theorem rowS_len (L : List Ed) (t : Tr) (Q : List Tr) : (rowS L t Q).length ≤ Q.length := by unfold rowS; rw [List.length_map]; exact List.length_filter_le _ _
theorem prsK_len (L : List Ed) (P : List Tr) (hP : P.length ≤ 10) : ∀ i, i ≤ P.length → (prsK L P i).length ≤ i * 10
  | 0, _ => by simp [prsK]
  | i + 1, h => by
    have h1 := prsK_len L P hP i (by omega)
    have h2 : P[i]? = some (P[i]'(by omega)) := List.getElem?_eq_getElem _
    rw [prsK_succ h2, List.length_append]
    have h3 := rowS_len L (P[i]'(by omega)) (P.take i)
    have h4 : (P.take i).length ≤ 10 := by rw [List.length_take]; omega
    omega
theorem Found.node {N : Int} {L : List Ed} {s : Int} {P : List Tr} (hG : gok N L = true) (hs : 0 ≤ s ∧ s < N) (h : Found L s P) {t : Tr} (ht : t ∈ P) : 0 ≤ lastN t ∧ lastN t < 10 := by
  have h1 := ((h.best t ht).1.bounds hG hs).2.2.2.1
  have h2 := (gok_parts hG).2.1
  omega

attribute [local go_sem] Oper.semAt_some

theorem ItM.start {w : World} {B B2 bc tc : Nat} {ta : Option Addr} {L : List Ed} {P : List TV} (hbc : w.heap[bc]? = some (.cells (tabOf L) 93 (0, 0))) (h1 : B ≤ bc) (h2 : B ≤ B2) (hown : w.ownsRow B2 86 2 (.slice ta P.length tc) P.length (pcs P)) (hN : ∀ x ∈ P, NAt w x ∧ B2 ≤ x.g) :
    ∃ g, (0 < P.length → ta = some ⟨g, 0, none⟩ ∧ P.length ≤ tc) ∧ ItM w B bc g L P := by
  have hcs : ∀ x y : Nat, x < 10 → y < 10 → w.cell? ⟨bc, x * 10 + y, none⟩ = some (.int .i64 (cst L x y)) := fun x y hx hy => tab_cell (x := (x : Int)) (y := (y : Int)) hbc (by omega) (by omega)
  have hla : ∀ (k : Nat) (t : TV), P[k]? = some t → B ≤ t.g ∧ 0 < t.ns.length ∧ t.ns.length ≤ 1000 ∧ w.cell? ⟨t.g, t.ns.length - 1, none⟩ = some (.int .i64 (lastN t.key)) := fun k t ht => by
    obtain ⟨hn, hb⟩ := hN t (List.mem_of_getElem? ht)
    exact ⟨by omega, hn.1, hn.2.1, hn.2.2.2.at_ _ _ (last_at (by have := hn.1; omega))⟩
  by_cases hp : 0 < P.length
  · obtain ⟨g, cap, hv, hb, hlt⟩ := hown.form hp
    cases hv
    have hcap : P.length ≤ tc := by
      rcases hown.2 with ⟨hv, _⟩ | ⟨g', cap', cur, hv, _, _, hc, _⟩
      · cases hv
      · cases hv; exact hc
    refine ⟨g, fun _ => ⟨rfl, hcap⟩, ⟨h1, by omega⟩, hcs, fun k t ht => ?_, hla⟩
    have hk : k < P.length := (List.getElem?_eq_some_iff.1 ht).1
    obtain ⟨p0, p1⟩ := pcs_at P ht
    exact ⟨by rw [hown.cellAt _ (by omega)]; exact p0, by rw [hown.cellAt _ (by omega)]; exact p1⟩
  · refine ⟨B, fun h => absurd h hp, ⟨h1, Nat.le_refl _⟩, hcs, fun k t ht => ?_, hla⟩
    have hk : k < P.length := (List.getElem?_eq_some_iff.1 ht).1
    omega

set_option maxRecDepth 100000 in
set_option maxHeartbeats 4000000 in
theorem steps_in (N s : Int) (lo hi n : Nat) (v : Value) (L : List Ed) (bg bf l : Nat) (X : Nat → Prop) (J Jx : List Pr → World → Prop) (W : World) (hG : gok N L = true) (hL : L.length = n) (hr : Row 3 W lo hi v n (flat L)) (hh : hi ≤ W.heap.size) (hs : 0 ≤ s ∧ s < N)
    (hg0 : W.cell? ⟨bg, 0, none⟩ = some (.int .i64 N)) (hg1 : W.cell? ⟨bg, 1, none⟩ = some v) (hf0 : W.cell? ⟨bf, 0, none⟩ = some (.int .i64 s)) (hX : ∀ k, X k → k < W.heap.size)
    (hJ : AbidesFrom W.heap.size J)
    (hY : ∀ pre x W1, J pre W1 → pre.length < 100 → YieldAt Fence.wide (3 - 1) Try.prog l (encP x) W1 fun e W' =>
      (e = .returned (.bool true) ∧ J (pre ++ [x]) W' ∧ KpX X W1 W') ∨ (e = .returned (.bool false) ∧ Jx (pre ++ [x]) W')) (h0 : J [] W) :
    CallsIn Fence.wide 3 Try.prog 99 #[.func (.yield l) #[] #[], .pointer (some ⟨bg, 0, none⟩), .pointer (some ⟨bf, 0, none⟩)] W fun e W' => (∃ r, e = .returned r) ∧
      ((∃ xs, (∃ P : List Tr, Found L s P ∧ P.length ≤ 10 ∧ xs.map Subtype.val = prs L P) ∧ J xs W') ∨ (∃ pre, True ∧ Jx pre W')) := by
  have HR := Lib.hid hr
  have HG := Lib.hid hG
  have HJ := Lib.hid hJ
  have HY := Lib.hid hY
  have HX := Lib.hid hX
  have hN1 := (gok_parts hG).1
  have hN2 := (gok_parts hG).2.1
  have H0 := Lib.hid h0
  have hbg := blk_lt hg0
  have hbf := blk_lt hf0
  simp only at hbg hbf
  obtain ⟨ad, cp, rfl⟩ := hr.slice
  clear hr hJ hY h0 hX
  refine callsIn_of_wp Try.func99 rfl trivial ?_ rfl
  simp only [Try.ntmps99, List.size_toArray, List.length_cons, List.length_nil, Nat.reduceAdd, Nat.reduceSub, Array.replicate_succ, Array.replicate_zero, List.push_toArray, List.append_toArray, List.nil_append, List.cons_append]
  gi_wp2_with fail
  refine ⟨trivial, ?_⟩
  gi_at_call 75
  refine CallsIn.mono (callsIn_wide.2 (costs_any N lo hi n _ L _ HG.out hL HR.out (by omega))) ?_
  rintro e v1 ⟨rfl, hb1⟩
  have J1 := Lib.hid (AbidesFrom.below HJ.out H0.out hb1)
  have B1 : Hid (Below W.heap.size W v1) := hb1
  have s1 := hb1.size
  clear hb1 H0
  obtain ⟨w2, hw2⟩ : ∃ q, q = ((v1.alloc (.cells Try.zeroCells93 93)).setRow v1.heap.size (tabOf L)) := ⟨_, rfl⟩
  obtain ⟨hbW, hsW, htW⟩ := tab_laid v1 L hw2
  have J2 := Lib.hid (AbidesFrom.below HJ.out J1.out hbW)
  have B2 : Hid (Below W.heap.size W w2) := B1.out.trans (hbW.mono s1)
  have HtW := Lib.hid htW
  have HsW := Lib.hid hsW
  have g0 : w2.cell? ⟨bg, 0, none⟩ = some (.int .i64 N) := (B2.out.cell (p := ⟨bg, 0, none⟩) hbg).trans hg0
  have g1 : w2.cell? ⟨bg, 1, none⟩ = some (.slice ad n cp) := (B2.out.cell (p := ⟨bg, 1, none⟩) hbg).trans hg1
  have f0 : w2.cell? ⟨bf, 0, none⟩ = some (.int .i64 s) := (B2.out.cell (p := ⟨bf, 0, none⟩) hbf).trans hf0
  have R2 := Lib.hid (HR.out.below B2.out hh)
  have Hw2 := Lib.hid hw2
  clear hw2 hbW htW hsW J1 B1 HR hg0 hg1 hf0
  gi_wp2_with (first | (refine storeIn_row rfl 93 _ _ rfl rfl v1.heap.size (tabOf L) rfl rfl 93 Try.zeroCells93 (heap_alloc_new _ _) (by rw [Try.size93, tabOf, tabA_size]) (by rw [tabA_zero, tabOf, tabA_size, tabA_size]) (tabA_one _) ?_; rw [← Hw2.out]))
  clear Hw2
  have hsW := HsW.out
  have hh2 : hi ≤ w2.heap.size := by omega
  obtain ⟨bc, hbc⟩ : ∃ q, q = v1.heap.size := ⟨_, rfl⟩
  rw [← hbc] at HtW hsW ⊢
  have hbc1 : W.heap.size ≤ bc := by omega
  have hbc2 : bc < w2.heap.size := by omega
  clear hbc s1 hsW HsW
  refine ⟨trivial, ?_⟩
  gi_at_call 72
  refine CallsIn.mono (callsIn_wide.2 (trails_any N s lo hi n _ L _ HG.out hL R2.out hh2 hs)) ?_
  rintro e w3 ⟨P, vt, rfl, hF, hPl, hown, hN, hb3⟩
  have J3 := Lib.hid (AbidesFrom.below HJ.out J2.out hb3)
  have HF := Lib.hid hF
  obtain ⟨ta, tc, ht⟩ := own_slice hown
  subst ht
  have hs3 := hb3.size
  have B3 : Hid (Below W.heap.size W w3) := B2.out.trans (hb3.mono (by omega))
  have HtW3 : Hid (w3.heap[bc]? = some (.cells (tabOf L) 93 (0, 0))) := by show _ = _; rw [hb3.block _ hbc2]; exact HtW.out
  have HI := Lib.hid (ItM.start (B := W.heap.size) HtW3.out hbc1 (by omega) hown hN)
  clear hF hown hN hb3 J2 B2 HtW R2 g0 g1 f0 hs3 HtW3 B3
  obtain ⟨g, hta, hI⟩ := HI.out
  have Hta := Lib.hid hta
  have H3 : Hid (∃ pre : List Pr, pre.map Subtype.val = prsK L (P.map TV.key) 0 ∧ J pre w3 ∧ ItM w3 W.heap.size bc g L P) := ⟨[], rfl, J3.out, hI⟩
  clear hta hI HI J3
  gi_wp2_with fail
  gi_loopw [17] (fun i wr => ∃ k : Nat, k ≤ P.length ∧ i = .int .i64 (k : Int) ∧ Hid (∃ pre : List Pr, pre.map Subtype.val = prsK L (P.map TV.key) k ∧ J pre wr ∧ ItM wr W.heap.size bc g L P)) (fun i _ => P.length - (intOf i).toNat)
  case atStart => exact ⟨0, Nat.zero_le _, rfl, H3⟩
  case round =>
    obtain ⟨wo, rfl⟩ : ∃ x, x = wr := ⟨_, rfl⟩
    obtain ⟨k, hk, rfl, hS⟩ := hrel
    by_cases hlt : k < P.length
    · obtain ⟨rfl, htc⟩ := Hta.out (by omega)
      obtain ⟨t, htk⟩ : ∃ t, P[k]? = some t := ⟨P[k], List.getElem?_eq_getElem _⟩
      obtain ⟨pre0, hp0, hj0, hi0⟩ := hS.out
      obtain ⟨z0, z1⟩ := hi0.tr k t htk
      obtain ⟨htg, htl, htl2, htz⟩ := hi0.la k t htk
      obtain ⟨lt, hlt2⟩ : ∃ l, t.ns.length = l + 1 := ⟨t.ns.length - 1, by omega⟩
      rw [hlt2] at z1 htz
      obtain ⟨bt, hbt⟩ : ∃ q, q = wo.heap.size := ⟨_, rfl⟩
      obtain ⟨wt, hwt⟩ : ∃ q, q = wo.alloc (.cells #[.int .i64 t.c, .slice (some ⟨t.g, 0, none⟩) (lt + 1) t.cap] 86) := ⟨_, rfl⟩
      have hbw : Below wo.heap.size wo wt := by rw [hwt]; exact (Below.refl _ _).alloc (Nat.le_refl _) _
      have H4 : Hid (∃ pre : List Pr, pre.map Subtype.val = prsK L (P.map TV.key) k ++ rowS L t.key ((P.map TV.key).take 0) ∧ J pre wt ∧ ItM wt W.heap.size bc g L P ∧ wt.cell? ⟨bt, 0, none⟩ = some (.int .i64 t.c) ∧ wt.cell? ⟨bt, 1, none⟩ = some (.slice (some ⟨t.g, 0, none⟩) (lt + 1) t.cap)) :=
        ⟨pre0, by rw [hp0]; simp [rowS], AbidesFrom.below HJ.out hj0 hbw, hi0.below hbw, by rw [hwt, hbt, newAt rfl]; rfl, by rw [hwt, hbt, newAt rfl]; rfl⟩
      have Hwt := Lib.hid hwt
      have q0 : (0 : Int) ≤ (k : Int) := by omega
      have q1 : (k : Int) < (P.length : Int) := by omega
      have q2 : (k : Int) ≤ (tc : Int) := by omega
      have Htk := Lib.hid htk
      have Hlt2 := Lib.hid hlt2
      have hszB : W.heap.size ≤ wo.heap.size := by have := blk_lt z0; have := hi0.lo.2; simp only at *; omega
      clear hp0 hj0 hi0 hwt hbw hS htz htk hlt2
      gi_wp2_with fail
      rw [← Hwt.out, ← hbt]
      have hbt1 : W.heap.size ≤ bt := by omega
      clear Hwt z0 z1 hbt
      gi_loopw [26] (fun j wi => ∃ m : Nat, m ≤ k ∧ j = .int .i64 (m : Int) ∧ Hid (∃ pre : List Pr, pre.map Subtype.val = prsK L (P.map TV.key) k ++ rowS L t.key ((P.map TV.key).take m) ∧ J pre wi ∧ ItM wi W.heap.size bc g L P ∧ wi.cell? ⟨bt, 0, none⟩ = some (.int .i64 t.c) ∧ wi.cell? ⟨bt, 1, none⟩ = some (.slice (some ⟨t.g, 0, none⟩) (lt + 1) t.cap))) (fun j _ => k - (intOf j).toNat)
      case atStart => exact ⟨0, Nat.zero_le _, rfl, H4⟩
      case round =>
        obtain ⟨wi, rfl⟩ : ∃ x, x = wr := ⟨_, rfl⟩
        obtain ⟨m, hm, rfl, hS⟩ := hrel
        by_cases hml : m < k
        · obtain ⟨u, huk⟩ : ∃ u, P[m]? = some u := ⟨P[m], List.getElem?_eq_getElem _⟩
          obtain ⟨pre, hp, hj, hi, ht0, ht1⟩ := hS.out
          obtain ⟨z0, z1⟩ := hi.tr m u huk
          obtain ⟨hug, hul, hul2, huz⟩ := hi.la m u huk
          obtain ⟨_, _, _, htz⟩ := hi.la k t Htk.out
          obtain ⟨lu, hlu⟩ : ∃ l, u.ns.length = l + 1 := ⟨u.ns.length - 1, by omega⟩
          rw [hlu] at z1 huz
          rw [Hlt2.out] at htz
          have hmu : u.key ∈ P.map TV.key := List.mem_map.2 ⟨u, List.mem_of_getElem? huk, rfl⟩
          have hmt : t.key ∈ P.map TV.key := List.mem_map.2 ⟨t, List.mem_of_getElem? Htk.out, rfl⟩
          have hnu := HF.out.node HG.out hs hmu
          have hnt := HF.out.node HG.out hs hmt
          have hcu := HF.out.cost HG.out hs hmu
          obtain ⟨xu, hxu⟩ : ∃ q : Nat, lastN u.key = (q : Int) := ⟨(lastN u.key).toNat, by omega⟩
          obtain ⟨xt, hxt⟩ : ∃ q : Nat, lastN t.key = (q : Int) := ⟨(lastN t.key).toNat, by omega⟩
          rw [hxu] at hnu huz
          rw [hxt] at hnt htz
          have zc := hi.cs xu xt (by omega) (by omega)
          have hcb := cst_bound HG.out (xu : Int) (xt : Int)
          obtain ⟨co, hco⟩ : ∃ q, q = cst L (xu : Int) (xt : Int) := ⟨_, rfl⟩
          rw [← hco] at zc hcb
          have hkey : u.key.1 = u.c := rfl
          rw [hkey] at hcu
          have hct := HF.out.cost HG.out hs hmt
          have hkt : t.key.1 = t.c := rfl
          rw [hkt] at hct
          have hne : u.c + co = t.c → (xu : Int) ≠ (xt : Int) := fun h e => by
            rw [hco, e, cst_self HG.out] at h
            unfold Far at h
            omega
          have hrow : rowS L t.key ((P.map TV.key).take (m + 1)) = rowS L t.key ((P.map TV.key).take m) ++ if u.c + co = t.c then [((xu : Int), (xt : Int))] else [] := by
            have e1 : (P.map TV.key)[m]? = some u.key := by rw [List.getElem?_map, huk]; rfl
            rw [List.take_add_one, e1, Option.toList_some, rowS_snoc, hxu, hxt, ← hco]
            rfl
          have hlen : pre.length < 100 := by
            have h1 := congrArg List.length hp
            have h2 := prsK_len L (P.map TV.key) (by simpa using hPl) k (by simpa using hk)
            have h3 := rowS_len L t.key ((P.map TV.key).take m)
            rw [List.length_take] at h3
            rw [List.length_append, List.length_map] at h1
            omega
          have Hrow := Lib.hid hrow
          have Hlen := Lib.hid hlen
          have Hp := Lib.hid hp
          obtain ⟨bu, hbu⟩ : ∃ q, q = wi.heap.size := ⟨_, rfl⟩
          obtain ⟨wc, hwc⟩ : ∃ q, q = wi.alloc (.cells #[.int .i64 u.c, .slice (some ⟨u.g, 0, none⟩) (lu + 1) u.cap] 86) := ⟨_, rfl⟩
          have hbw : Below wi.heap.size wi wc := by rw [hwc]; exact (Below.refl _ _).alloc (Nat.le_refl _) _
          have y0 : wc.cell? ⟨bu, 0, none⟩ = some (.int .i64 u.c) := by rw [hwc, hbu, newAt rfl]; rfl
          have y1 : wc.cell? ⟨bu, 1, none⟩ = some (.slice (some ⟨u.g, 0, none⟩) (lu + 1) u.cap) := by rw [hwc, hbu, newAt rfl]; rfl
          have y2 : wc.cell? ⟨bt, 0, none⟩ = some (.int .i64 t.c) := (hbw.cell (blk_lt ht0)).trans ht0
          have y3 : wc.cell? ⟨bt, 1, none⟩ = some (.slice (some ⟨t.g, 0, none⟩) (lt + 1) t.cap) := (hbw.cell (blk_lt ht1)).trans ht1
          have y4 : wc.cell? ⟨bc, xu * 10 + xt, none⟩ = some (.int .i64 co) := (hbw.cell (blk_lt zc)).trans zc
          have y5 : wc.cell? ⟨u.g, lu, none⟩ = some (.int .i64 (xu : Int)) := (hbw.cell (blk_lt huz)).trans huz
          have y6 : wc.cell? ⟨t.g, lt, none⟩ = some (.int .i64 (xt : Int)) := (hbw.cell (blk_lt htz)).trans htz
          have HYs := Lib.hid (And.intro y0 (And.intro y1 (And.intro y2 (And.intro y3 (And.intro y4 (And.intro y5 y6))))))
          have Hj := Lib.hid (AbidesFrom.below HJ.out hj hbw)
          have Hi := Lib.hid (hi.below hbw)
          have Hwc := Lib.hid hwc
          have hlu6 : lu ≤ 1100000 := by omega
          have hlt6 : lt ≤ 1100000 := by have := Hlt2.out; omega
          have n0 : (0 : Int) ≤ (xu : Int) := by omega
          have n1 : (xu : Int) < 10 := by omega
          have n2 : (0 : Int) ≤ (xt : Int) := by omega
          have n3 : (xt : Int) < 10 := by omega
          have r0 : (0 : Int) ≤ (m : Int) := by omega
          have r1 : (m : Int) < (k : Int) := by omega
          have hwr : IntKind.i64.wrap (u.c + co) = u.c + co := by rw [IntKind.wrap_i64]; omega
          have hmx : Try.prog.follows .mixedOrders = true := by kernel_rfl
          clear hp hj hi ht0 ht1 hug huz htz zc hco hrow hlen hwc hbw y0 y1 y2 y3 y4 y5 y6 hS huk hlu hmu hmt hxu hxt hkey hul hul2 hct hkt
          gi_wp2_with fail
          rw [← Hwc.out, ← hbu]
          clear Hwc hbu
          by_cases hq : u.c + co = t.c
          · have g1 : (u.c + co == t.c) = true := by simp [hq]
            obtain ⟨y0, y1, y2, y3, y4, y5, y6⟩ := HYs.out
            have hub := blk_lt y0
            have htb := blk_lt y2
            have hcb2 := blk_lt y4
            have hgu := blk_lt y5
            have hgt := blk_lt y6
            simp only at hub htb hcb2 hgu hgt
            refine wpIn_region_heldY (S := Below wc.heap.size wc) [19, 20, 21] hmx (Below.refl _ _).drew (fun hHeld => ?_)
            refine stepY_read 0 30 [0, 1, 9, 12, 13, 14, 15, 16, 17, 18, 19, 20, 21] (by rfl) rfl rfl (by kernel_rfl) (by kernel_rfl) (by kernel_rfl) (by kernel_rfl) (fun _ _ _ h => h) (by rfl) (fun _ => rfl) (v := ?_) (fun w hSw => ?_) (by assumption) ?_; rotate_left; (focus (have k0 := (hSw.cell (p := ⟨bu, 0, none⟩) hub).trans y0; have k1 := (hSw.cell (p := ⟨bu, 1, none⟩) hub).trans y1; have k2 := (hSw.cell (p := ⟨bt, 0, none⟩) htb).trans y2; have k3 := (hSw.cell (p := ⟨bt, 1, none⟩) htb).trans y3; have k4 := (hSw.cell (p := ⟨bc, xu * 10 + xt, none⟩) hcb2).trans y4; go_simp; first | done | exact rfl)); simp only [List.set]
            refine stepY_read 1 31 [1, 9, 12, 13, 14, 15, 16, 17, 18, 19, 20, 21] (by rfl) rfl rfl (by kernel_rfl) (by kernel_rfl) (by kernel_rfl) (by kernel_rfl) (fun _ _ _ h => h) (by rfl) (fun _ => rfl) (v := ?_) (fun w hSw => ?_) (by assumption) ?_; rotate_left; (focus (have k0 := (hSw.cell (p := ⟨bu, 0, none⟩) hub).trans y0; have k1 := (hSw.cell (p := ⟨bu, 1, none⟩) hub).trans y1; have k2 := (hSw.cell (p := ⟨bt, 0, none⟩) htb).trans y2; have k3 := (hSw.cell (p := ⟨bt, 1, none⟩) htb).trans y3; have k4 := (hSw.cell (p := ⟨bc, xu * 10 + xt, none⟩) hcb2).trans y4; go_simp; first | done | exact rfl)); simp only [List.set]
            refine stepY_read 2 32 [2, 3, 5, 6, 7, 8, 9, 12, 13, 14, 15, 16, 17, 18, 19, 20, 21] (by rfl) rfl rfl (by kernel_rfl) (by kernel_rfl) (by kernel_rfl) (by kernel_rfl) (fun _ _ _ h => h) (by rfl) (fun _ => rfl) (v := ?_) (fun w hSw => ?_) (by assumption) ?_; rotate_left; (focus (have k0 := (hSw.cell (p := ⟨bu, 0, none⟩) hub).trans y0; have k1 := (hSw.cell (p := ⟨bu, 1, none⟩) hub).trans y1; have k2 := (hSw.cell (p := ⟨bt, 0, none⟩) htb).trans y2; have k3 := (hSw.cell (p := ⟨bt, 1, none⟩) htb).trans y3; have k4 := (hSw.cell (p := ⟨bc, xu * 10 + xt, none⟩) hcb2).trans y4; go_simp; first | done | exact rfl)); simp only [List.set]
            refine stepY_read 4 34 [4, 5, 7, 8, 9, 12, 13, 14, 15, 16, 17, 18, 19, 20, 21] (by rfl) rfl rfl (by kernel_rfl) (by kernel_rfl) (by kernel_rfl) (by kernel_rfl) (fun _ _ _ h => h) (by rfl) (fun _ => rfl) (v := ?_) (fun w hSw => ?_) (by assumption) ?_; rotate_left; (focus (have k0 := (hSw.cell (p := ⟨bu, 0, none⟩) hub).trans y0; have k1 := (hSw.cell (p := ⟨bu, 1, none⟩) hub).trans y1; have k2 := (hSw.cell (p := ⟨bt, 0, none⟩) htb).trans y2; have k3 := (hSw.cell (p := ⟨bt, 1, none⟩) htb).trans y3; have k4 := (hSw.cell (p := ⟨bc, xu * 10 + xt, none⟩) hcb2).trans y4; go_simp; first | done | exact rfl)); simp only [List.set]
            refine stepY_read 10 40 [10, 11, 12, 13, 14, 15, 16, 17, 18, 19, 20, 21] (by rfl) rfl rfl (by kernel_rfl) (by kernel_rfl) (by kernel_rfl) (by kernel_rfl) (fun _ _ _ h => h) (by rfl) (fun _ => rfl) (v := ?_) (fun w hSw => ?_) (by assumption) ?_; rotate_left; (focus (have k0 := (hSw.cell (p := ⟨bu, 0, none⟩) hub).trans y0; have k1 := (hSw.cell (p := ⟨bu, 1, none⟩) hub).trans y1; have k2 := (hSw.cell (p := ⟨bt, 0, none⟩) htb).trans y2; have k3 := (hSw.cell (p := ⟨bt, 1, none⟩) htb).trans y3; have k4 := (hSw.cell (p := ⟨bc, xu * 10 + xt, none⟩) hcb2).trans y4; go_simp; first | done | exact rfl)); simp only [List.set]
            refine stepY_read 11 41 [11, 12, 13, 14, 15, 16, 17, 18, 19, 20, 21] (by rfl) rfl rfl (by kernel_rfl) (by kernel_rfl) (by kernel_rfl) (by kernel_rfl) (fun _ _ _ h => h) (by rfl) (fun _ => rfl) (v := ?_) (fun w hSw => ?_) (by assumption) ?_; rotate_left; (focus (have k0 := (hSw.cell (p := ⟨bu, 0, none⟩) hub).trans y0; have k1 := (hSw.cell (p := ⟨bu, 1, none⟩) hub).trans y1; have k2 := (hSw.cell (p := ⟨bt, 0, none⟩) htb).trans y2; have k3 := (hSw.cell (p := ⟨bt, 1, none⟩) htb).trans y3; have k4 := (hSw.cell (p := ⟨bc, xu * 10 + xt, none⟩) hcb2).trans y4; go_simp; first | done | exact rfl)); simp only [List.set]
            refine stepY_one 3 rfl (by kernel_rfl) rfl (fun Kc hK => ?_)
            go_simp
            refine ⟨trivial, ?_⟩
            gi_at_call 73
            refine CallsIn.mono (callsIn_wide.2 (end_any u.c (xu : Int) u.g lu u.cap _ hlu6 (Nat.lt_of_lt_of_le hgu hHeld.size) ((hHeld.cell (p := ⟨u.g, lu, none⟩) hgu).trans y5))) ?_
            rintro e w' ⟨rfl, hb'⟩
            refine hK.out _ _ (hHeld.trans (hb'.mono hHeld.size)) ?_
            clear hK Kc hHeld hb'
            intro hHeld
            refine stepY_read 6 36 [6, 7, 8, 9, 12, 13, 14, 15, 16, 17, 18, 19, 20, 21] (by rfl) rfl rfl (by kernel_rfl) (by kernel_rfl) (by kernel_rfl) (by kernel_rfl) (fun _ _ _ h => h) (by rfl) (fun _ => rfl) (v := ?_) (fun w hSw => ?_) (by assumption) ?_; rotate_left; (focus (have k0 := (hSw.cell (p := ⟨bu, 0, none⟩) hub).trans y0; have k1 := (hSw.cell (p := ⟨bu, 1, none⟩) hub).trans y1; have k2 := (hSw.cell (p := ⟨bt, 0, none⟩) htb).trans y2; have k3 := (hSw.cell (p := ⟨bt, 1, none⟩) htb).trans y3; have k4 := (hSw.cell (p := ⟨bc, xu * 10 + xt, none⟩) hcb2).trans y4; go_simp; first | done | exact rfl)); simp only [List.set]
            refine stepY_one 5 rfl (by kernel_rfl) rfl (fun Kc hK => ?_)
            go_simp
            refine ⟨trivial, ?_⟩
            gi_at_call 73
            refine CallsIn.mono (callsIn_wide.2 (end_any t.c (xt : Int) t.g lt t.cap _ hlt6 (Nat.lt_of_lt_of_le hgt hHeld.size) ((hHeld.cell (p := ⟨t.g, lt, none⟩) hgt).trans y6))) ?_
            rintro e w' ⟨rfl, hb'⟩
            refine hK.out _ _ (hHeld.trans (hb'.mono hHeld.size)) ?_
            clear hK Kc hHeld hb'
            intro hHeld
            refine stepY_read 7 37 [7, 8, 9, 12, 13, 14, 15, 16, 17, 18, 19, 20, 21] (by rfl) rfl rfl (by kernel_rfl) (by kernel_rfl) (by kernel_rfl) (by kernel_rfl) (fun _ _ _ h => h) (by rfl) (fun _ => rfl) (v := ?_) (fun w hSw => ?_) (by assumption) ?_; rotate_left; (focus (have k0 := (hSw.cell (p := ⟨bu, 0, none⟩) hub).trans y0; have k1 := (hSw.cell (p := ⟨bu, 1, none⟩) hub).trans y1; have k2 := (hSw.cell (p := ⟨bt, 0, none⟩) htb).trans y2; have k3 := (hSw.cell (p := ⟨bt, 1, none⟩) htb).trans y3; have k4 := (hSw.cell (p := ⟨bc, xu * 10 + xt, none⟩) hcb2).trans y4; go_simp; first | done | exact rfl)); simp only [List.set]
            refine stepY_read 8 38 [8, 9, 12, 13, 14, 15, 16, 17, 18, 19, 20, 21] (by rfl) rfl rfl (by kernel_rfl) (by kernel_rfl) (by kernel_rfl) (by kernel_rfl) (fun _ _ _ h => h) (by rfl) (fun _ => rfl) (v := ?_) (fun w hSw => ?_) (by assumption) ?_; rotate_left; (focus (have k0 := (hSw.cell (p := ⟨bu, 0, none⟩) hub).trans y0; have k1 := (hSw.cell (p := ⟨bu, 1, none⟩) hub).trans y1; have k2 := (hSw.cell (p := ⟨bt, 0, none⟩) htb).trans y2; have k3 := (hSw.cell (p := ⟨bt, 1, none⟩) htb).trans y3; have k4 := (hSw.cell (p := ⟨bc, xu * 10 + xt, none⟩) hcb2).trans y4; go_simp; first | done | exact rfl)); simp only [List.set]
            refine stepY_read 9 39 [9, 12, 13, 14, 15, 16, 17, 18, 19, 20, 21] (by rfl) rfl rfl (by kernel_rfl) (by kernel_rfl) (by kernel_rfl) (by kernel_rfl) (fun _ _ _ h => h) (by rfl) (fun _ => rfl) (v := ?_) (fun w hSw => ?_) (by assumption) ?_; rotate_left; (focus (have k0 := (hSw.cell (p := ⟨bu, 0, none⟩) hub).trans y0; have k1 := (hSw.cell (p := ⟨bu, 1, none⟩) hub).trans y1; have k2 := (hSw.cell (p := ⟨bt, 0, none⟩) htb).trans y2; have k3 := (hSw.cell (p := ⟨bt, 1, none⟩) htb).trans y3; have k4 := (hSw.cell (p := ⟨bc, xu * 10 + xt, none⟩) hcb2).trans y4; go_simp; first | done | exact rfl)); simp only [List.set]
            refine stepY_read 12 42 [12, 13, 14, 15, 16, 17, 18, 19, 20, 21] (by rfl) rfl rfl (by kernel_rfl) (by kernel_rfl) (by kernel_rfl) (by kernel_rfl) (fun _ _ _ h => h) (by rfl) (fun _ => rfl) (v := Value.bool true) (fun w hSw => ?_) (by assumption) ?_; (focus (clear hSw; (try go_simp); first | done | exact rfl | (simp [hq]; done) | (rw [hq] at hwr; exact hwr))); simp only [List.set]
            refine stepY_read 13 43 [13, 14, 15, 16, 17, 18, 19, 20, 21] (by rfl) rfl rfl (by kernel_rfl) (by kernel_rfl) (by kernel_rfl) (by kernel_rfl) (fun _ _ _ h => h) (by rfl) (fun _ => rfl) (v := ?_) (fun w hSw => ?_) (by assumption) ?_; rotate_left; (focus (have k0 := (hSw.cell (p := ⟨bu, 0, none⟩) hub).trans y0; have k1 := (hSw.cell (p := ⟨bu, 1, none⟩) hub).trans y1; have k2 := (hSw.cell (p := ⟨bt, 0, none⟩) htb).trans y2; have k3 := (hSw.cell (p := ⟨bt, 1, none⟩) htb).trans y3; have k4 := (hSw.cell (p := ⟨bc, xu * 10 + xt, none⟩) hcb2).trans y4; go_simp; first | done | exact rfl)); simp only [List.set]
            refine stepY_read 14 44 [14, 19, 20, 21] (by rfl) rfl rfl (by kernel_rfl) (by kernel_rfl) (by kernel_rfl) (by kernel_rfl) (fun _ _ _ h => h) (by rfl) (fun _ => rfl) (v := ?_) (fun w hSw => ?_) (by assumption) ?_; rotate_left; (focus (have k0 := (hSw.cell (p := ⟨bu, 0, none⟩) hub).trans y0; have k1 := (hSw.cell (p := ⟨bu, 1, none⟩) hub).trans y1; have k2 := (hSw.cell (p := ⟨bt, 0, none⟩) htb).trans y2; have k3 := (hSw.cell (p := ⟨bt, 1, none⟩) htb).trans y3; have k4 := (hSw.cell (p := ⟨bc, xu * 10 + xt, none⟩) hcb2).trans y4; go_simp; first | done | exact rfl)); simp only [List.set]
            refine stepY_read 15 45 [15, 16, 18, 19, 20, 21] (by rfl) rfl rfl (by kernel_rfl) (by kernel_rfl) (by kernel_rfl) (by kernel_rfl) (fun _ _ _ h => h) (by rfl) (fun _ => rfl) (v := ?_) (fun w hSw => ?_) (by assumption) ?_; rotate_left; (focus (have k0 := (hSw.cell (p := ⟨bu, 0, none⟩) hub).trans y0; have k1 := (hSw.cell (p := ⟨bu, 1, none⟩) hub).trans y1; have k2 := (hSw.cell (p := ⟨bt, 0, none⟩) htb).trans y2; have k3 := (hSw.cell (p := ⟨bt, 1, none⟩) htb).trans y3; have k4 := (hSw.cell (p := ⟨bc, xu * 10 + xt, none⟩) hcb2).trans y4; go_simp; first | done | exact rfl)); simp only [List.set]
            refine stepY_read 17 47 [17, 18, 19, 20, 21] (by rfl) rfl rfl (by kernel_rfl) (by kernel_rfl) (by kernel_rfl) (by kernel_rfl) (fun _ _ _ h => h) (by rfl) (fun _ => rfl) (v := ?_) (fun w hSw => ?_) (by assumption) ?_; rotate_left; (focus (have k0 := (hSw.cell (p := ⟨bu, 0, none⟩) hub).trans y0; have k1 := (hSw.cell (p := ⟨bu, 1, none⟩) hub).trans y1; have k2 := (hSw.cell (p := ⟨bt, 0, none⟩) htb).trans y2; have k3 := (hSw.cell (p := ⟨bt, 1, none⟩) htb).trans y3; have k4 := (hSw.cell (p := ⟨bc, xu * 10 + xt, none⟩) hcb2).trans y4; go_simp; first | done | exact rfl)); simp only [List.set]
            refine stepY_one 16 rfl (by kernel_rfl) rfl (fun Kc hK => ?_)
            go_simp
            refine ⟨trivial, ?_⟩
            gi_at_call 73
            refine CallsIn.mono (callsIn_wide.2 (end_any u.c (xu : Int) u.g lu u.cap _ hlu6 (Nat.lt_of_lt_of_le hgu hHeld.size) ((hHeld.cell (p := ⟨u.g, lu, none⟩) hgu).trans y5))) ?_
            rintro e w' ⟨rfl, hb'⟩
            refine hK.out _ _ (hHeld.trans (hb'.mono hHeld.size)) ?_
            clear hK Kc hHeld hb'
            intro hHeld
            refine stepY_one 18 rfl (by kernel_rfl) rfl (fun Kc hK => ?_)
            go_simp
            refine ⟨trivial, ?_⟩
            gi_at_call 73
            refine CallsIn.mono (callsIn_wide.2 (end_any t.c (xt : Int) t.g lt t.cap _ hlt6 (Nat.lt_of_lt_of_le hgt hHeld.size) ((hHeld.cell (p := ⟨t.g, lt, none⟩) hgt).trans y6))) ?_
            rintro e w' ⟨rfl, hb'⟩
            refine hK.out _ _ (hHeld.trans (hb'.mono hHeld.size)) ?_
            clear hK Kc hHeld hb'
            intro hHeld
            obtain ⟨fn, tmps, assign, body, hy, hR⟩ := HY.out pre ⟨((xu : Int), (xt : Int)), ⟨n0, n1⟩, ⟨n2, n3⟩, hne hq⟩ w' (AbidesFrom.below HJ.out Hj.out hHeld) Hlen.out
            dsimp only [encP] at hy
            have Hi3 := Lib.hid (Hi.out.below hHeld)
            have v2 := (hHeld.cell (p := ⟨bt, 0, none⟩) htb).trans y2
            have v3 := (hHeld.cell (p := ⟨bt, 1, none⟩) htb).trans y3
            clear hHeld y0 y1 y2 y3 y4 y5 y6
            refine stepY_last 19 rfl (by kernel_rfl) rfl (fun Kc hK => ?_)
            go_simp
            refine hR.mono ?_
            clear hR hy
            rintro e W3 (⟨rfl, hJ3, hk3⟩ | ⟨rfl, hJx3⟩)
            · refine hK.out _ _ ?_
              clear hK Kc
              have Hi4 := Lib.hid (Hi3.out.kp hk3 HX.out)
              have u2 := hk3.cell (p := ⟨bt, 0, none⟩) (fun h => by have := HX.out _ h; simp only at this; omega) v2
              have u3 := hk3.cell (p := ⟨bt, 1, none⟩) (fun h => by have := HX.out _ h; simp only at this; omega) v3
              have Hj3 := Lib.hid hJ3
              clear v2 v3 Hi3 hk3 hJ3
              refine stepY_last 20 rfl (by kernel_rfl) rfl (fun Kc hK => ?_)
              go_simp
              refine hK.out _ _ ?_
              clear hK Kc
              refine stepY_last 21 rfl (by kernel_rfl) rfl (fun Kc hK => ?_)
              go_simp
              refine hK.out _ _ ?_
              clear hK Kc
              refine wpHY_done (by kernel_rfl) ?_ _
              clear hub htb hcb2 hgu hgt
              gi_wp2_with fail
              go_roundw
              case rel => exact ⟨m + 1, by omega, by go_num, ⟨pre ++ [⟨((xu : Int), (xt : Int)), ⟨n0, n1⟩, ⟨n2, n3⟩, hne hq⟩], by rw [List.map_append, Hp.out, Hrow.out, if_pos hq, List.append_assoc]; rfl, Hj3.out, Hi4.out, u2, u3⟩⟩
              case measure => simp [intOf]; omega
            · refine hK.out _ _ ?_
              clear hK Kc
              have Hj3 := Lib.hid hJx3
              clear hJx3 Hi3 v2 v3 hub htb hcb2 hgu hgt
              refine stepY_last 20 rfl (by kernel_rfl) rfl (fun Kc hK => ?_)
              go_simp
              refine hK.out _ _ ?_
              clear hK Kc
              refine stepY_last 21 rfl (by kernel_rfl) rfl (fun Kc hK => ?_)
              go_simp
              refine hK.out _ _ ?_
              clear hK Kc
              refine wpHY_done (by kernel_rfl) ?_ _
              gi_wp2_with fail
              refine bodyPost_ret (results_none rfl _ _ _) rfl ?_
              exact ⟨⟨_, rfl⟩, .inr ⟨_, trivial, Hj3.out⟩⟩
          · have g1 : (u.c + co == t.c) = false := by simp [hq]
            obtain ⟨y0, y1, y2, y3, y4, y5, y6⟩ := HYs.out
            have hub := blk_lt y0
            have htb := blk_lt y2
            have hcb2 := blk_lt y4
            have hgu := blk_lt y5
            have hgt := blk_lt y6
            simp only at hub htb hcb2 hgu hgt
            refine wpIn_region_heldY (S := Below wc.heap.size wc) [] hmx (Below.refl _ _).drew (fun hHeld => ?_)
            refine stepY_read 0 30 [0] (by rfl) rfl rfl (by kernel_rfl) (by kernel_rfl) (by kernel_rfl) (by kernel_rfl) (fun _ _ _ h => h) (by rfl) (fun _ => rfl) (v := ?_) (fun w hSw => ?_) (by assumption) ?_; rotate_left; (focus (have k0 := (hSw.cell (p := ⟨bu, 0, none⟩) hub).trans y0; have k1 := (hSw.cell (p := ⟨bu, 1, none⟩) hub).trans y1; have k2 := (hSw.cell (p := ⟨bt, 0, none⟩) htb).trans y2; have k3 := (hSw.cell (p := ⟨bt, 1, none⟩) htb).trans y3; have k4 := (hSw.cell (p := ⟨bc, xu * 10 + xt, none⟩) hcb2).trans y4; go_simp; first | done | exact rfl)); simp only [List.set]
            refine stepY_read 1 31 [1] (by rfl) rfl rfl (by kernel_rfl) (by kernel_rfl) (by kernel_rfl) (by kernel_rfl) (fun _ _ _ h => h) (by rfl) (fun _ => rfl) (v := ?_) (fun w hSw => ?_) (by assumption) ?_; rotate_left; (focus (have k0 := (hSw.cell (p := ⟨bu, 0, none⟩) hub).trans y0; have k1 := (hSw.cell (p := ⟨bu, 1, none⟩) hub).trans y1; have k2 := (hSw.cell (p := ⟨bt, 0, none⟩) htb).trans y2; have k3 := (hSw.cell (p := ⟨bt, 1, none⟩) htb).trans y3; have k4 := (hSw.cell (p := ⟨bc, xu * 10 + xt, none⟩) hcb2).trans y4; go_simp; first | done | exact rfl)); simp only [List.set]
            refine stepY_read 2 32 [2] (by rfl) rfl rfl (by kernel_rfl) (by kernel_rfl) (by kernel_rfl) (by kernel_rfl) (fun _ _ _ h => h) (by rfl) (fun _ => rfl) (v := ?_) (fun w hSw => ?_) (by assumption) ?_; rotate_left; (focus (have k0 := (hSw.cell (p := ⟨bu, 0, none⟩) hub).trans y0; have k1 := (hSw.cell (p := ⟨bu, 1, none⟩) hub).trans y1; have k2 := (hSw.cell (p := ⟨bt, 0, none⟩) htb).trans y2; have k3 := (hSw.cell (p := ⟨bt, 1, none⟩) htb).trans y3; have k4 := (hSw.cell (p := ⟨bc, xu * 10 + xt, none⟩) hcb2).trans y4; go_simp; first | done | exact rfl)); simp only [List.set]
            refine stepY_read 4 34 [4] (by rfl) rfl rfl (by kernel_rfl) (by kernel_rfl) (by kernel_rfl) (by kernel_rfl) (fun _ _ _ h => h) (by rfl) (fun _ => rfl) (v := ?_) (fun w hSw => ?_) (by assumption) ?_; rotate_left; (focus (have k0 := (hSw.cell (p := ⟨bu, 0, none⟩) hub).trans y0; have k1 := (hSw.cell (p := ⟨bu, 1, none⟩) hub).trans y1; have k2 := (hSw.cell (p := ⟨bt, 0, none⟩) htb).trans y2; have k3 := (hSw.cell (p := ⟨bt, 1, none⟩) htb).trans y3; have k4 := (hSw.cell (p := ⟨bc, xu * 10 + xt, none⟩) hcb2).trans y4; go_simp; first | done | exact rfl)); simp only [List.set]
            refine stepY_read 10 40 [10] (by rfl) rfl rfl (by kernel_rfl) (by kernel_rfl) (by kernel_rfl) (by kernel_rfl) (fun _ _ _ h => h) (by rfl) (fun _ => rfl) (v := ?_) (fun w hSw => ?_) (by assumption) ?_; rotate_left; (focus (have k0 := (hSw.cell (p := ⟨bu, 0, none⟩) hub).trans y0; have k1 := (hSw.cell (p := ⟨bu, 1, none⟩) hub).trans y1; have k2 := (hSw.cell (p := ⟨bt, 0, none⟩) htb).trans y2; have k3 := (hSw.cell (p := ⟨bt, 1, none⟩) htb).trans y3; have k4 := (hSw.cell (p := ⟨bc, xu * 10 + xt, none⟩) hcb2).trans y4; go_simp; first | done | exact rfl)); simp only [List.set]
            refine stepY_read 11 41 [11] (by rfl) rfl rfl (by kernel_rfl) (by kernel_rfl) (by kernel_rfl) (by kernel_rfl) (fun _ _ _ h => h) (by rfl) (fun _ => rfl) (v := ?_) (fun w hSw => ?_) (by assumption) ?_; rotate_left; (focus (have k0 := (hSw.cell (p := ⟨bu, 0, none⟩) hub).trans y0; have k1 := (hSw.cell (p := ⟨bu, 1, none⟩) hub).trans y1; have k2 := (hSw.cell (p := ⟨bt, 0, none⟩) htb).trans y2; have k3 := (hSw.cell (p := ⟨bt, 1, none⟩) htb).trans y3; have k4 := (hSw.cell (p := ⟨bc, xu * 10 + xt, none⟩) hcb2).trans y4; go_simp; first | done | exact rfl)); simp only [List.set]
            refine stepY_one 3 rfl (by kernel_rfl) rfl (fun Kc hK => ?_)
            go_simp
            refine ⟨trivial, ?_⟩
            gi_at_call 73
            refine CallsIn.mono (callsIn_wide.2 (end_any u.c (xu : Int) u.g lu u.cap _ hlu6 (Nat.lt_of_lt_of_le hgu hHeld.size) ((hHeld.cell (p := ⟨u.g, lu, none⟩) hgu).trans y5))) ?_
            rintro e w' ⟨rfl, hb'⟩
            refine hK.out _ _ (hHeld.trans (hb'.mono hHeld.size)) ?_
            clear hK Kc hHeld hb'
            intro hHeld
            refine stepY_read 6 36 [6] (by rfl) rfl rfl (by kernel_rfl) (by kernel_rfl) (by kernel_rfl) (by kernel_rfl) (fun _ _ _ h => h) (by rfl) (fun _ => rfl) (v := ?_) (fun w hSw => ?_) (by assumption) ?_; rotate_left; (focus (have k0 := (hSw.cell (p := ⟨bu, 0, none⟩) hub).trans y0; have k1 := (hSw.cell (p := ⟨bu, 1, none⟩) hub).trans y1; have k2 := (hSw.cell (p := ⟨bt, 0, none⟩) htb).trans y2; have k3 := (hSw.cell (p := ⟨bt, 1, none⟩) htb).trans y3; have k4 := (hSw.cell (p := ⟨bc, xu * 10 + xt, none⟩) hcb2).trans y4; go_simp; first | done | exact rfl)); simp only [List.set]
            refine stepY_one 5 rfl (by kernel_rfl) rfl (fun Kc hK => ?_)
            go_simp
            refine ⟨trivial, ?_⟩
            gi_at_call 73
            refine CallsIn.mono (callsIn_wide.2 (end_any t.c (xt : Int) t.g lt t.cap _ hlt6 (Nat.lt_of_lt_of_le hgt hHeld.size) ((hHeld.cell (p := ⟨t.g, lt, none⟩) hgt).trans y6))) ?_
            rintro e w' ⟨rfl, hb'⟩
            refine hK.out _ _ (hHeld.trans (hb'.mono hHeld.size)) ?_
            clear hK Kc hHeld hb'
            intro hHeld
            refine stepY_read 7 37 [7] (by rfl) rfl rfl (by kernel_rfl) (by kernel_rfl) (by kernel_rfl) (by kernel_rfl) (fun _ _ _ h => h) (by rfl) (fun _ => rfl) (v := ?_) (fun w hSw => ?_) (by assumption) ?_; rotate_left; (focus (have k0 := (hSw.cell (p := ⟨bu, 0, none⟩) hub).trans y0; have k1 := (hSw.cell (p := ⟨bu, 1, none⟩) hub).trans y1; have k2 := (hSw.cell (p := ⟨bt, 0, none⟩) htb).trans y2; have k3 := (hSw.cell (p := ⟨bt, 1, none⟩) htb).trans y3; have k4 := (hSw.cell (p := ⟨bc, xu * 10 + xt, none⟩) hcb2).trans y4; go_simp; first | done | exact rfl)); simp only [List.set]
            refine stepY_read 8 38 [8] (by rfl) rfl rfl (by kernel_rfl) (by kernel_rfl) (by kernel_rfl) (by kernel_rfl) (fun _ _ _ h => h) (by rfl) (fun _ => rfl) (v := ?_) (fun w hSw => ?_) (by assumption) ?_; rotate_left; (focus (have k0 := (hSw.cell (p := ⟨bu, 0, none⟩) hub).trans y0; have k1 := (hSw.cell (p := ⟨bu, 1, none⟩) hub).trans y1; have k2 := (hSw.cell (p := ⟨bt, 0, none⟩) htb).trans y2; have k3 := (hSw.cell (p := ⟨bt, 1, none⟩) htb).trans y3; have k4 := (hSw.cell (p := ⟨bc, xu * 10 + xt, none⟩) hcb2).trans y4; go_simp; first | done | exact rfl)); simp only [List.set]
            refine stepY_read 9 39 [9] (by rfl) rfl rfl (by kernel_rfl) (by kernel_rfl) (by kernel_rfl) (by kernel_rfl) (fun _ _ _ h => h) (by rfl) (fun _ => rfl) (v := ?_) (fun w hSw => ?_) (by assumption) ?_; rotate_left; (focus (have k0 := (hSw.cell (p := ⟨bu, 0, none⟩) hub).trans y0; have k1 := (hSw.cell (p := ⟨bu, 1, none⟩) hub).trans y1; have k2 := (hSw.cell (p := ⟨bt, 0, none⟩) htb).trans y2; have k3 := (hSw.cell (p := ⟨bt, 1, none⟩) htb).trans y3; have k4 := (hSw.cell (p := ⟨bc, xu * 10 + xt, none⟩) hcb2).trans y4; go_simp; first | done | exact rfl)); simp only [List.set]
            refine stepY_read 12 42 [12] (by rfl) rfl rfl (by kernel_rfl) (by kernel_rfl) (by kernel_rfl) (by kernel_rfl) (fun _ _ _ h => h) (by rfl) (fun _ => rfl) (v := Value.bool false) (fun w hSw => ?_) (by assumption) ?_; (focus (clear hSw; (try go_simp); first | done | exact rfl | (simp [hq]; done) | (rw [hq] at hwr; exact hwr))); simp only [List.set]
            refine stepY_read 13 43 [13] (by rfl) rfl rfl (by kernel_rfl) (by kernel_rfl) (by kernel_rfl) (by kernel_rfl) (fun _ _ _ h => h) (by rfl) (fun _ => rfl) (v := ?_) (fun w hSw => ?_) (by assumption) ?_; rotate_left; (focus (have k0 := (hSw.cell (p := ⟨bu, 0, none⟩) hub).trans y0; have k1 := (hSw.cell (p := ⟨bu, 1, none⟩) hub).trans y1; have k2 := (hSw.cell (p := ⟨bt, 0, none⟩) htb).trans y2; have k3 := (hSw.cell (p := ⟨bt, 1, none⟩) htb).trans y3; have k4 := (hSw.cell (p := ⟨bc, xu * 10 + xt, none⟩) hcb2).trans y4; go_simp; first | done | exact rfl)); simp only [List.set]
            refine stepY_skip 14 44 [14] (by rfl) rfl rfl (by kernel_rfl) (by kernel_rfl) (by kernel_rfl) (by kernel_rfl) (fun _ _ _ h => h) (by rfl) (fun _ => rfl) (by assumption) ?_; simp only [List.set]
            refine stepY_skip 15 45 [15] (by rfl) rfl rfl (by kernel_rfl) (by kernel_rfl) (by kernel_rfl) (by kernel_rfl) (fun _ _ _ h => h) (by rfl) (fun _ => rfl) (by assumption) ?_; simp only [List.set]
            refine stepY_skip 17 47 [17] (by rfl) rfl rfl (by kernel_rfl) (by kernel_rfl) (by kernel_rfl) (by kernel_rfl) (fun _ _ _ h => h) (by rfl) (fun _ => rfl) (by assumption) ?_; simp only [List.set]
            refine stepY_one 16 rfl (by kernel_rfl) rfl (fun Kc hK => ?_)
            go_simp
            refine ⟨trivial, ?_⟩
            refine hK.out _ _ hHeld ?_
            clear hK Kc hHeld
            intro hHeld
            refine stepY_one 18 rfl (by kernel_rfl) rfl (fun Kc hK => ?_)
            go_simp
            refine ⟨trivial, ?_⟩
            refine hK.out _ _ hHeld ?_
            clear hK Kc hHeld
            intro hHeld
            refine stepY_one 19 rfl (by kernel_rfl) rfl (fun Kc hK => ?_)
            go_simp
            refine ⟨fun _ _ => trivial, ?_⟩
            refine hK.out _ _ hHeld ?_
            clear hK Kc hHeld
            intro hHeld
            refine stepY_skip 20 50 [20] (by rfl) rfl rfl (by kernel_rfl) (by kernel_rfl) (by kernel_rfl) (by kernel_rfl) (fun _ _ _ h => h) (by rfl) (fun _ => rfl) (by assumption) ?_; simp only [List.set]
            refine stepY_read 21 51 [21] (by rfl) rfl rfl (by kernel_rfl) (by kernel_rfl) (by kernel_rfl) (by kernel_rfl) (fun _ _ _ h => h) (by rfl) (fun _ => rfl) (v := ?_) (fun w hSw => ?_) (by assumption) ?_; rotate_left; (focus (have k0 := (hSw.cell (p := ⟨bu, 0, none⟩) hub).trans y0; have k1 := (hSw.cell (p := ⟨bu, 1, none⟩) hub).trans y1; have k2 := (hSw.cell (p := ⟨bt, 0, none⟩) htb).trans y2; have k3 := (hSw.cell (p := ⟨bt, 1, none⟩) htb).trans y3; have k4 := (hSw.cell (p := ⟨bc, xu * 10 + xt, none⟩) hcb2).trans y4; go_simp; first | done | exact rfl)); simp only [List.set]
            refine wpHY_done (by kernel_rfl) ?_ _
            have Hh := Lib.hid hHeld
            clear hHeld hub htb hcb2 hgu hgt
            gi_wp2_with fail
            go_roundw
            case rel => exact ⟨m + 1, by omega, by go_num, ⟨pre, by rw [Hrow.out, if_neg hq, List.append_nil]; exact Hp.out, AbidesFrom.below HJ.out Hj.out Hh.out, Hi.out.below Hh.out, (Hh.out.cell (blk_lt y2)).trans y2, (Hh.out.cell (blk_lt y3)).trans y3⟩⟩
            case measure => simp [intOf]; omega
        · obtain rfl : k = m := by omega
          have hge : ¬ ((k : Int) < (k : Int)) := by omega
          obtain ⟨pre, hp, hj, hi, _, _⟩ := hS.out
          gi_wp2_with fail
          go_roundw
          case rel => exact ⟨k + 1, by omega, by go_num, ⟨pre, by rw [hp, prsK_succ (t := t.key) (by rw [List.getElem?_map, Htk.out]; rfl)], hj, hi⟩⟩
          case measure => simp [intOf]; omega
    · obtain rfl : P.length = k := by omega
      have hge : ¬ ((P.length : Int) < (P.length : Int)) := by omega
      obtain ⟨pre0, hp0, hj0, _⟩ := hS.out
      gi_wp2_with fail
      go_end0
      exact ⟨⟨_, rfl⟩, .inl ⟨pre0, ⟨P.map TV.key, HF.out, by simpa using hPl, by rw [hp0]; simp [prs]⟩, hj0⟩⟩

attribute [local go_sem] Oper.semAt_some
theorem ten_at (s : Nat) (h : s < 10) : ([.int .i64 0, .int .i64 0, .int .i64 0, .int .i64 0, .int .i64 0, .int .i64 0, .int .i64 0, .int .i64 0, .int .i64 0, .int .i64 0] : List Value)[s]? = some (.int .i64 0) := by
  have : s = 0 ∨ s = 1 ∨ s = 2 ∨ s = 3 ∨ s = 4 ∨ s = 5 ∨ s = 6 ∨ s = 7 ∨ s = 8 ∨ s = 9 := by omega
  rcases this with rfl | rfl | rfl | rfl | rfl | rfl | rfl | rfl | rfl | rfl <;> rfl
/-- impl.stepsFrom: the function value and the two boxes that it captures. -/
theorem stepsFrom_any (N s : Int) (n cp : Nat) (ad : Option Addr) (w : World) :
    Calls Try.prog 74 #[.agg #[.int .i64 N, .slice ad n cp], .int .i64 s] w fun e w' => e = .returned (.func (.func 99) #[] #[.pointer (some ⟨w.heap.size, 0, none⟩), .pointer (some ⟨w.heap.size + 1, 0, none⟩)]) ∧
      w' = (w.alloc (.cells #[.int .i64 N, .slice ad n cp] 29)).alloc (.cells #[.int .i64 s] 3) := by
  go_enter Try.func74, Try.ntmps74
  go_wp2_with fail
  go_ret
  exact ⟨rfl, rfl⟩
theorem steps_stops (N s : Int) (lo hi n : Nat) (v : Value) (L : List Ed) (bg bf : Nat) (X : Nat → Prop) (w : World) (hG : gok N L = true) (hL : L.length = n) (hr : Row 3 w lo hi v n (flat L)) (hh : hi ≤ w.heap.size) (hs : 0 ≤ s ∧ s < N)
    (hg0 : w.cell? ⟨bg, 0, none⟩ = some (.int .i64 N)) (hg1 : w.cell? ⟨bg, 1, none⟩ = some v) (hf0 : w.cell? ⟨bf, 0, none⟩ = some (.int .i64 s)) (hX : ∀ k, X k → k < w.heap.size) :
    SeqStopsK Fence.wide 3 Try.prog 99 #[.pointer (some ⟨bg, 0, none⟩), .pointer (some ⟨bf, 0, none⟩)] encP (KpX X) (fun xs => ∃ P : List Tr, Found L s P ∧ P.length ≤ 10 ∧ xs.map Subtype.val = prs L P) (fun _ => True) 100 w := fun l J Jx W hW hJ _ hY h0 =>
  steps_in N s lo hi n v L bg bf l X J Jx W hG hL (hr.below hW hh) (Nat.le_trans hh hW.size) hs ((hW.cell (p := ⟨bg, 0, none⟩) (blk_lt hg0)).trans hg0) ((hW.cell (p := ⟨bg, 1, none⟩) (blk_lt hg1)).trans hg1) ((hW.cell (p := ⟨bf, 0, none⟩) (blk_lt hf0)).trans hf0) (fun k hk => Nat.lt_of_lt_of_le (hX k hk) hW.size) hJ hY h0
/-- The counts behind the steps that have come. -/
def stv (s : Int) (pre : List Pr) : Int → Int := (pre.map Subtype.val).foldl stW (upd (fun _ => 0) s 1)
theorem stv_snoc (s : Int) (pre : List Pr) (x : Pr) : stv s (pre ++ [x]) = stW (stv s pre) x.1 := by unfold stv; rw [List.map_append, List.foldl_append]; rfl
/-- The ten counts in block b. -/
structure WayC (W : World) (b : Nat) (f : Int → Int) : Prop where
  at_ : ∀ i : Nat, i < 10 → W.cell? ⟨b, i, none⟩ = some (.int .i64 (f i))
  fz : ∀ i : Nat, i < 10 → W.frozen? ⟨b, i, none⟩ = false
theorem WayC.own (b : Nat) (f : List Pr → Int → Int) : Own (fun pre W => WayC W b (f pre)) := fun _ _ _ _ hs hg hr =>
  ⟨fun i hi => cell_kept (hs.at_ i hi) hg hr, fun i hi => (frozen_kept (hs.at_ i hi) hg hr).trans (hs.fz i hi)⟩
theorem WayC.set {W : World} {b : Nat} {f : Int → Int} (h : WayC W b f) {j : Nat} (hj : j < 10) (z : Int) : WayC (W.setCell ⟨b, j, none⟩ (.int .i64 z)) b (upd f (j : Int) z) where
  at_ := fun i hi => by
    by_cases e : i = j
    · subst e
      rw [upd_at]
      exact World.cell?_setCell_same' _ _ _ (by rw [h.at_ i hi]; rfl)
    · rw [upd_ne (by omega), ← h.at_ i hi]
      apply World.cell?_setCell_other
      intro e'
      cases e'
      exact e rfl
  fz := fun i hi => by rw [World.frozen?_setCell]; exact h.fz i hi
theorem wrap64_i64 (n : Int) : wrap64 n = IntKind.i64.wrap n := by rw [IntKind.wrap_i64]; unfold wrap64; rfl
theorem way_end {w W : World} {m bw a b : Nat} {s : Int} {pre : List Pr} (hc : WayC W bw (stv s pre)) (hB : Below m w W) (hm : m ≤ bw) (ha : (0 ≤ (a : Int) ∧ (a : Int) < 10) ∧ (0 ≤ (b : Int) ∧ (b : Int) < 10) ∧ (a : Int) ≠ (b : Int)) {z : Int} (hz : z = IntKind.i64.wrap (stv s pre (b : Int) + stv s pre (a : Int))) :
    KeepsOthers W (W.setCell ⟨bw, b, none⟩ (.int .i64 z)).drew ∧ KpX (fun k => k = bw) W (W.setCell ⟨bw, b, none⟩ (.int .i64 z)).drew ∧ WayC (W.setCell ⟨bw, b, none⟩ (.int .i64 z)).drew bw (stv s (pre ++ [⟨((a : Int), (b : Int)), ha⟩])) ∧ Below m w (W.setCell ⟨bw, b, none⟩ (.int .i64 z)).drew := by
  have hs := hc.set (j := b) (by omega) z
  refine ⟨(KeepsOthers.setCell _ _ _).trans (KeepsOthers.drew _), KpX.of_grown (r := some bw) ?_ (fun k e => by cases e; rfl), ⟨fun i hi => ?_, fun i hi => ?_⟩, (hB.setCell (p := ⟨bw, b, none⟩) hm _).drew⟩
  · have h := grown_set (grown_refl W (some bw)) b (.int .i64 z)
    exact ⟨h.os, h.tape, h.output, h.size, h.block⟩
  · rw [stv_snoc, show stW (stv s pre) ((⟨((a : Int), (b : Int)), ha⟩ : Pr)).1 = upd (stv s pre) (b : Int) z by rw [hz]; rfl]
    exact hs.at_ i hi
  · exact hs.fz i hi

set_option maxRecDepth 100000 in
set_option maxHeartbeats 4000000 in
theorem icnt_yes (M : Nat) (lo hi n : Nat) (v : Value) (L : List Ed) (s o : Nat) (w : World) (hL : L.length = n) (hr : Row 3 w lo hi v n (flat L)) (hh : hi ≤ w.heap.size) (hG : gok (M : Int) L = true) (hs : s < M) (ho : o < M) :
    Calls Try.prog 36 #[.agg #[.int .i64 (M : Int), v], .int .i64 (s : Int), .int .i64 (o : Int)] w (fun e w' => (∃ P : List Tr, Found L (s : Int) P ∧ P.length ≤ 10 ∧ e = .returned (.int .i64 ((prs L P).foldl stW (upd (fun _ => 0) (s : Int) 1) (o : Int)))) ∧ Below w.heap.size w w') := by
  have HR := Lib.hid hr
  have HG := Lib.hid hG
  have HL := Lib.hid hL
  have hN1 := (gok_parts hG).1
  have hN2 := (gok_parts hG).2.1
  have hns : ndB (M : Int) (s : Int) = true := by unfold ndB; rw [inB_iff]; omega
  have hno : ndB (M : Int) (o : Int) = true := by unfold ndB; rw [inB_iff]; omega
  obtain ⟨ad, cp, rfl⟩ := hr.slice
  clear hr
  refine (callsIn_wide (n := 4)).1 ?_
  refine callsIn_of_wp_marks Try.func36 rfl trivial ?_ rfl
  simp only [Try.ntmps36, List.size_toArray, List.length_cons, List.length_nil, Nat.reduceAdd, Nat.reduceSub, Array.replicate_succ, Array.replicate_zero, List.push_toArray, List.append_toArray, List.nil_append, List.cons_append]
  gi_wp2_with fail
  refine ⟨trivial, ?_⟩
  gi_at_call 51
  refine CallsIn.mono (callsIn_wide.2 (igok_any (M : Int) lo hi n _ L _ hL (HR.out.below (B := w.heap.size) (by go_grown) (by omega)) (by simp; omega))) ?_
  rw [HG.out]
  rintro e v1 ⟨rfl, hb1⟩
  have sz1 : w.heap.size + 1 ≤ v1.heap.size := by have hh := hb1.size; simp at hh; omega
  have st1 : Below w.heap.size w v1 := Below.trans (by go_grown) (hb1.mono (by simp))
  have c1_0 : v1.cell? ⟨w.heap.size, 0, none⟩ = some (.int .i64 (M : Int)) := by rw [(bcell hb1).1 _ _ (by simp)]; first | (rw [new_at (by simp)]; rfl) | simp
  have c1_1 : v1.cell? ⟨w.heap.size, 1, none⟩ = some (.slice ad n cp) := by rw [(bcell hb1).1 _ _ (by simp)]; first | (rw [new_at (by simp)]; rfl) | simp
  have B1 : Hid (Below w.heap.size w v1) := st1
  have R1_0 : Hid (Row 3 v1 (lo) (hi) (.slice ad n cp) n (flat L)) := HR.out.below st1 (by omega)
  have d1_0 : w.heap.size < v1.heap.size := by omega
  have e1_0 : w.heap.size ≠ v1.heap.size := by omega
  clear st1 HR hb1
  gi_wp2_with fail
  refine ⟨trivial, ?_⟩
  gi_at_call 52
  refine CallsIn.mono (callsIn_wide.2 (hasNode_any (M : Int) _ _ _ (s : Int) _)) ?_
  rw [hns]
  rintro e v2 ⟨rfl, hb2⟩
  have sz2 : v1.heap.size ≤ v2.heap.size := hb2.size
  have st2 : Below v1.heap.size v1 v2 := hb2
  have c2_0 : v2.cell? ⟨w.heap.size, 0, none⟩ = some (.int .i64 (M : Int)) := by rw [(bcell st2).1 _ _ (by omega)]; exact c1_0
  have c2_1 : v2.cell? ⟨w.heap.size, 1, none⟩ = some (.slice ad n cp) := by rw [(bcell st2).1 _ _ (by omega)]; exact c1_1
  have B2 : Hid (Below w.heap.size w v2) := B1.out.trans (st2.mono (by omega))
  have R2_0 : Hid (Row 3 v2 (lo) (hi) (.slice ad n cp) n (flat L)) := R1_0.out.below st2 (by omega)
  have d2_0 : w.heap.size < v2.heap.size := by omega
  have e2_0 : w.heap.size ≠ v2.heap.size := by omega
  clear d1_0 e1_0 c1_0 c1_1 B1 st2 R1_0 hb2
  gi_wp2_with fail
  refine ⟨trivial, ?_⟩
  gi_at_call 52
  refine CallsIn.mono (callsIn_wide.2 (hasNode_any (M : Int) _ _ _ (o : Int) _)) ?_
  rw [hno]
  rintro e v3 ⟨rfl, hb3⟩
  have sz3 : v2.heap.size ≤ v3.heap.size := hb3.size
  have st3 : Below v2.heap.size v2 v3 := hb3
  have c3_0 : v3.cell? ⟨w.heap.size, 0, none⟩ = some (.int .i64 (M : Int)) := by rw [(bcell st3).1 _ _ (by omega)]; exact c2_0
  have c3_1 : v3.cell? ⟨w.heap.size, 1, none⟩ = some (.slice ad n cp) := by rw [(bcell st3).1 _ _ (by omega)]; exact c2_1
  have B3 : Hid (Below w.heap.size w v3) := B2.out.trans (st3.mono (by omega))
  have R3_0 : Hid (Row 3 v3 (lo) (hi) (.slice ad n cp) n (flat L)) := R2_0.out.below st3 (by omega)
  have d3_0 : w.heap.size < v3.heap.size := by omega
  have e3_0 : w.heap.size ≠ v3.heap.size := by omega
  clear d2_0 e2_0 c2_0 c2_1 B2 st3 R2_0 hb3
  clear hns hno
  have q0 : (0 : Int) ≤ (s : Int) := by omega
  have q1 : (s : Int) < 10 := by omega
  have hzL := ten_at s (by omega)
  gi_wp2_with fail
  obtain ⟨bw, hbw⟩ : ∃ q, q = v3.heap.size := ⟨_, rfl⟩
  obtain ⟨w4, hw4⟩ : ∃ q, q = v3.alloc (.cells ([.int .i64 0, .int .i64 0, .int .i64 0, .int .i64 0, .int .i64 0, .int .i64 0, .int .i64 0, .int .i64 0, .int .i64 0, .int .i64 0].set s (.int .i64 1)).toArray 88) := ⟨_, rfl⟩
  rw [← hw4, ← hbw]
  have hW4 : WayC w4 bw (upd (fun _ => 0) (s : Int) 1) := by
    refine ⟨fun i hi => ?_, fun i _ => by rw [hw4, hbw, newFrz rfl]⟩
    rw [hw4, hbw, newAt rfl]
    rw [List.getElem?_toArray, List.getElem?_set]
    by_cases e : s = i
    · subst e; rw [if_pos rfl, if_pos (by simpa using hi), upd_at]
    · rw [if_neg e, ten_at i hi, upd_ne (by omega)]
  have b4 : Below v3.heap.size v3 w4 := by rw [hw4]; exact (Below.refl _ _).alloc (Nat.le_refl _) _
  have s4 : bw + 1 ≤ w4.heap.size := by rw [hw4, hbw]; simp
  have s40 : w.heap.size ≤ bw := by omega
  have B4 := Lib.hid (B3.out.trans (b4.mono (by omega)))
  have R4 := Lib.hid (R3_0.out.below b4 (by omega))
  have HW4 := Lib.hid hW4
  have hsw : w.heap.size ≤ w4.heap.size := by omega
  clear hw4 hW4 b4 hzL hbw B3 R3_0
  refine ⟨trivial, ?_⟩
  gi_at_call 74
  refine CallsIn.mono (callsIn_wide.2 (stepsFrom_any (M : Int) (s : Int) n cp ad _)) ?_
  rintro e w5 ⟨rfl, hw5⟩
  have b5 : Below w4.heap.size w4 w5 := by rw [hw5]; exact ((Below.refl _ _).alloc (Nat.le_refl _) _).alloc (by simp) _
  have g0 : w5.cell? ⟨w4.heap.size, 0, none⟩ = some (.int .i64 (M : Int)) := by rw [hw5]; simp
  have g1 : w5.cell? ⟨w4.heap.size, 1, none⟩ = some (.slice ad n cp) := by rw [hw5]; simp
  have f0 : w5.cell? ⟨w4.heap.size + 1, 0, none⟩ = some (.int .i64 (s : Int)) := by rw [hw5, newAt (by simp)]; rfl
  have s5 : w4.heap.size + 1 + 1 ≤ w5.heap.size := by rw [hw5]; simp
  have HW5 : WayC w5 bw (upd (fun _ => 0) (s : Int) 1) := ⟨fun i hi => by rw [b5.cell (p := ⟨bw, i, none⟩) (by simp only; omega)]; exact HW4.out.at_ i hi, fun i hi => by rw [b5.frozen (p := ⟨bw, i, none⟩) (by simp only; omega)]; exact HW4.out.fz i hi⟩
  have B5 := Lib.hid (B4.out.trans (b5.mono (by omega)))
  have R5 := Lib.hid (R4.out.below b5 (by omega))
  clear hw5 b5 R4 B4 HW4
  gi_wp2_with fail
  have hmx : Try.prog.follows .mixedOrders = true := by kernel_rfl
  have hs1 : (0 : Int) ≤ (s : Int) ∧ (s : Int) < (M : Int) := ⟨by omega, by omega⟩
  refine wpIn_rangeFunc_ownF (F := Fence.wide) (n := 4) (w0 := w5) (Kp := KpX (fun k => k = bw)) (S := fun xs => ∃ P : List Tr, Found L (s : Int) P ∧ P.length ≤ 10 ∧ xs.map Subtype.val = prs L P) (Sp := fun _ => True) (N := 100) rfl (by omega) (gf := 99) (lb := #[.pointer (some ⟨w4.heap.size, 0, none⟩), .pointer (some ⟨w4.heap.size + 1, 0, none⟩)]) rfl trivial (enters_of Try.func99 (by kernel_rfl) rfl)
    (steps_stops (M : Int) (s : Int) lo hi n _ L w4.heap.size (w4.heap.size + 1) (fun k => k = bw) w5 HG.out hL R5.out (by omega) hs1 g0 g1 f0 (fun k hk => by omega))
    KpX.t (fun W l o o' h1 h2 h3 h4 => KpX.b W l o o' h1 h2 h3 h4) (Below.refl _ _) (fun _ => rfl)
    (fun pre W => WayC W bw (stv (s : Int) pre) ∧ Below w.heap.size w W) (fun _ _ _ => False)
    (OwnFrom.and (Own.from (WayC.own bw (fun pre => stv (s : Int) pre)) _) (ownFrom_below (Nat.le_refl _) (by omega)))
    (fun _ _ _ _ _ hs _ _ => hs) ⟨HW5, B5.out⟩
    (fun x => { tmps := #[.agg #[.int .i64 (M : Int), .slice ad n cp], .int .i64 (s : Int), .int .i64 (o : Int), .pointer (some ⟨w.heap.size, 0, none⟩), undef, undef, .int .i64 0, .pointer (some ⟨bw, 0, none⟩), .int .i64 x.1.1, .int .i64 x.1.2, .agg #[.int .i64 (M : Int), .slice ad n cp], .bool true, .bool false, .bool false, .agg #[.int .i64 (M : Int), .slice ad n cp], .int .i64 (s : Int), .bool true, .bool false, .bool false, .bool false, .agg #[.int .i64 (M : Int), .slice ad n cp], .int .i64 (o : Int), .bool true, .bool false, .bool false, .int .i64 (s : Int), .pointer (some ⟨bw, s, none⟩), .agg #[.int .i64 (M : Int), .slice ad n cp], .int .i64 (s : Int), .func (.func 99) #[] #[.pointer (some ⟨w4.heap.size, 0, none⟩), .pointer (some ⟨w4.heap.size + 1, 0, none⟩)], .int .i64 x.1.1, .int .i64 x.1.2, undef, undef, undef, undef, undef, undef, undef, undef, undef, undef, undef], defers := [] }) ?assign ?body ?done ?stop
  case assign =>
    intro l x W K hK
    dsimp only [encP]
    gi_wp2
    exact hK
  case body =>
    rintro l pre ⟨⟨a, b⟩, ⟨a0, a1⟩, ⟨b0, b1⟩, hab⟩ W ⟨hc, hB⟩ _
    simp only at a0 a1 b0 b1
    obtain ⟨a, rfl⟩ : ∃ q : Nat, a = (q : Int) := ⟨a.toNat, by omega⟩
    obtain ⟨b, rfl⟩ : ∃ q : Nat, b = (q : Int) := ⟨b.toNat, by omega⟩
    have za := hc.at_ a (by omega)
    have zb := hc.at_ b (by omega)
    have fb := hc.fz b (by omega)
    have Hc := Lib.hid hc
    have HB := Lib.hid hB
    clear hc hB
    gi_wp2_with fail
    gi_region_with_o (fail)
    all_goals gi_wp2
    all_goals (try go_bits)
    all_goals exact way_end Hc.out HB.out s40 _ (wrap64_i64 _)
  case done =>
    rintro D ys W hD ⟨P, hF, hP, hys⟩ ⟨hc, hB⟩ hK
    have zo := hc.at_ o (by omega)
    gi_wp2
    refine ⟨by simp, .inl ⟨_, _, rfl, run_takeDeferred hK, ?_⟩⟩
    exact ⟨_, results_tmp rfl _ _ _, ⟨P, hF, hP, by rw [stv, hys]; rfl⟩, hB.trans (belowK_b (w := w5) (by omega) W D _ _ hD hK rfl rfl)⟩
  case stop =>
    rintro D c pre W _ _ h _
    exact h.elim

end Go.Proofs.Ytjenjdhoblcohaa
