/- Within a fence: an operation of a region that draws its order is taken first if it yields its value in every world that meets S; S need not hold behind the operations of a list Y, all of which come after the one that is taken. Of whatever program; no walk. -/
import Derived.OrdersIn
import Derived.OrdersHeld
import Derived.TacticsIn
import Derived.Lib.Hide
import Derived.Test.YtkkfgnnhdcmmjaaReg
namespace Go.Proofs.Ytkkfgnnhdcmmjaa
open Go.RowKit

section
variable {F : Fence} {n : Nat} {P : Program} {ops : Array Oper} {Q : Exit → Act → World → Prop} {md : Region.Mode} {S : World → Prop}
/-- It yields v in every world that meets S, and is about to make no call there. -/
def YS (P : Program) (ops : Array Oper) (S : World → Prop) (o : Oper) (v : Value) (a : Act) : Prop := YieldsIf P ops S o v a ∧ ∀ w, o.about P w a.eval = none
theorem YS.op {i : Nat} {o : Oper} {v : Value} {a : Act} (hro : F.round = none) (hi : ops[i]? = some o) (hy : YS P ops S o v a) {K : Act → World → Prop} {w : World} (hS : S w) (h : K (a.put o.dst v) w) : wpOpIn F n P ops Q i K a w := by
  unfold Go.wpOpIn
  simp only [hi]
  have hab : ∀ f, o.about P w a.eval = some f → F.fn f := fun f hf => by rw [hy.2 w] at hf; cases hf
  rcases hy.1 with ⟨hw, hv⟩ | ⟨hw, rfl⟩
  · simp only [hw, if_true, Oper.wpIn, hro, Oper.semAt_none, hv w hS, Oper.uponIn]; exact ⟨hab, h⟩
  · simp only [hw, Bool.false_eq_true, if_false]; exact ⟨hab, h⟩
theorem YS.same {o : Oper} {v : Value} {a a' : Act} (hy : YS P ops S o v a) (he : execOp a'.eval o = execOp a.eval o) (hw : Region.wanted o (yielded ops a'.tmps) = Region.wanted o (yielded ops a.tmps)) (hb : ∀ w, o.about P w a'.eval = o.about P w a.eval) : YS P ops S o v a' :=
  ⟨hy.1.of_same he hw, fun w => by rw [hb w]; exact hy.2 w⟩
theorem ys_put {j : Nat} {oi oj : Oper} {v : Value} (hro : F.round = none) (hj : ops[j]? = some oj) (hap : oi.apart ops oj = true) (hsi : ∀ cs b, oi.op ≠ .select cs b) (hsj : ∀ cs b, oj.op ≠ .select cs b)
    (hQ : ∀ c a w, Q (.panic c) (a.put oi.dst v) w → Q (.panic c) a w) {K : Act → World → Prop} {a : Act} {w : World} (hy : YS P ops S oi v a) (h : wpOpIn F n P ops Q j K (a.put oi.dst v) w) :
    wpOpIn F n P ops Q j (fun a' w' => YS P ops S oi v a' ∧ K (a'.put oi.dst v) w') a w := by
  obtain ⟨h1, h2, h3⟩ := Oper.apart_spec hap
  have keep : ∀ (a : Act), YS P ops S oi v a → ∀ u, YS P ops S oi v (a.put oj.dst u) := fun a hy u => hy.same (execOp_put oi hsi a oj.dst u h3) (wanted_put oi a oj.dst u h3) (fun w => about_put oi w a oj.dst u h3)
  have keepD : ∀ d, YS P ops S oi v { a with defers := d :: a.defers } := fun d => hy.same rfl rfl (fun _ => rfl)
  unfold wpOpIn at *
  simp only [hj] at *
  rw [wanted_put oj a oi.dst v h1, about_put oj w a oi.dst v h1] at h
  split
  · rename_i hw
    simp only [hw, if_true] at h
    unfold Oper.wpIn at *
    rw [about_put oj w a oi.dst v h1] at h
    refine ⟨h.1, ?_⟩
    have h := h.2
    rw [hro, Oper.semAt_none, execOp_put oj hsj a oi.dst v h1] at h
    rw [hro, Oper.semAt_none]
    generalize (execOp a.eval oj).run P w = r at *
    cases r with
    | ok x w' =>
      cases x <;> simp only [Oper.uponIn] at h ⊢
      case value u => exact ⟨keep a hy u, by rw [← Act.put_comm a v u h2]; exact h⟩
      case skip => exact ⟨keep a hy _, by rw [← Act.put_comm a v undef h2]; exact h⟩
      case defer d =>
        refine ⟨keep _ (keepD d) _, ?_⟩
        rw [← Act.put_comm _ v undef h2, ← Act.put_defers]
        exact h
      case enter f args =>
        refine ⟨h.1, CallsIn.mono h.2 fun e w'' he => ?_⟩
        cases e with
        | returned u => exact ⟨keep a hy u, by rw [← Act.put_comm a v u h2]; exact he⟩
        | panicked c => exact hQ _ _ _ he
        | outgrown => exact he
      case row row args => exact ⟨h.1, RowsIn.mono h.2 fun u w'' he => ⟨keep a hy u, by rw [← Act.put_comm a v u h2]; exact he⟩⟩
      case round l f tmps assign body =>
        refine ⟨h.1, RoundIn.mono h.2 fun e w'' he => ?_⟩
        cases e with
        | returned u => exact ⟨keep a hy u, by rw [← Act.put_comm a v u h2]; exact he⟩
        | panicked c => exact hQ _ _ _ he
        | outgrown => exact he
    | halt x w' =>
      cases x <;> simp only [Oper.uponIn] at h ⊢
      case panic u => exact hQ _ _ _ h
  · rename_i hw
    simp only [hw] at h
    exact ⟨h.1, keep a hy _, by rw [← Act.put_comm a v undef h2]; exact h.2⟩
/-- Whatever order is picked, and S holds behind every operation that is carried out. -/
def wpHIn (F : Fence) (n : Nat) (P : Program) (md : Region.Mode) (ops : Array Oper) (Q : Exit → Act → World → Prop) (S : World → Prop) : Nat → Array Bool → Act → World → Prop
  | 0, listed, a, w => Region.ready md ops listed = [] ∧ Q .normal a w
  | fuel + 1, listed, a, w => (Region.ready md ops listed = [] → Q .normal a w) ∧ ∀ i ∈ Region.ready md ops listed, wpOpIn F n P ops Q i (fun a' w' => S w' ∧ wpHIn F n P md ops Q S fuel (listed.setIfInBounds i true) a' w') a w
theorem wpHIn_any : ∀ (fuel : Nat) (listed : Array Bool) (a : Act) (w : World), wpHIn F n P md ops Q S fuel listed a w → wpAnyIn F n P md ops Q fuel listed a w
  | 0, _, _, _, h => h
  | fuel + 1, _, _, _, h => ⟨h.1, fun i hi => wpOpIn_mono (fun a' w' h' => wpHIn_any fuel _ a' w' h'.2) (h.2 i hi)⟩
theorem wpHIn_first {i : Nat} {oi : Oper} {v : Value} (hro : F.round = none) (hi : ops[i]? = some oi) (hsel : ∀ (j : Nat) (o : Oper) cs b, ops[j]? = some o → o.op ≠ .select cs b)
    (hQ : ∀ c a w, Q (.panic c) (a.put oi.dst v) w → Q (.panic c) a w) :
    ∀ (fuel : Nat) (listed : Array Bool) (a : Act) (w : World),
      (∀ j oj, ops[j]? = some oj → j ≠ i → listed.getD j true = false → (∀ e ∈ oj.after, Region.binds md e = true → e.on ≠ i) → oi.apart ops oj = true) →
      i ∈ Region.ready md ops listed → YS P ops S oi v a → S w →
      wpHIn F n P md ops Q S fuel (listed.setIfInBounds i true) (a.put oi.dst v) w → wpHIn F n P md ops Q S (fuel + 1) listed a w := by
  intro fuel
  induction fuel with
  | zero =>
    intro listed a w _ hr hy hS H
    refine ⟨fun h => (by rw [h] at hr; cases hr), fun j hj => ?_⟩
    by_cases hji : j = i
    · subst hji; exact hy.op hro hi hS ⟨hS, H⟩
    · have := ready_mono hj hji
      rw [H.1] at this
      cases this
  | succ fuel ih =>
    intro listed a w hfree hr hy hS H
    refine ⟨fun h => (by rw [h] at hr; cases hr), fun j hj => ?_⟩
    by_cases hji : j = i
    · subst hji; exact hy.op hro hi hS ⟨hS, H⟩
    · have h1 := H.2 j (ready_mono hj hji)
      obtain ⟨hjun, oj, hoj, hall⟩ := mem_ready.1 hj
      have hnot : ∀ e ∈ oj.after, Region.binds md e = true → e.on ≠ i := fun e he hb heq => by
        have h1 := hall e he hb
        have h0 := (mem_ready.1 hr).1
        rw [heq] at h1
        rcases Nat.lt_or_ge i listed.size with h' | h'
        · simp [h'] at h0 h1; rw [h0] at h1; cases h1
        · simp [Array.getElem?_eq_none h'] at h1
      have h2 := ys_put hro hoj (hfree j oj hoj hji hjun hnot) (fun cs b => hsel i oi cs b hi) (fun cs b => hsel j oj cs b hoj) hQ hy h1
      have hfree' : ∀ k ok, ops[k]? = some ok → k ≠ i → (listed.setIfInBounds j true).getD k true = false →
          (∀ e ∈ ok.after, Region.binds md e = true → e.on ≠ i) → oi.apart ops ok = true := fun k ok hk hki hun hno => by
        refine hfree k ok hk hki ?_ hno
        by_cases hjk : j = k
        · subst hjk; exact hjun
        · rw [getD_set_ne true hjk] at hun; exact hun
      refine wpOpIn_mono (fun a' w' h3 => ⟨h3.2.1, ih (listed.setIfInBounds j true) a' w' hfree' (ready_mono hr (Ne.symm hji)) h3.1 h3.2.1 ?_⟩) h2
      rw [Array.setIfInBounds_comm _ _ hji]
      exact h3.2.2
theorem wpHIn_take {i : Nat} {oi : Oper} {v : Value} {fuel : Nat} {listed : Array Bool} {a : Act} {w : World} (hro : F.round = none) (hi : ops[i]? = some oi)
    (hs : Region.noSelect ops = true) (hf : Region.free md ops listed i = true) (hr : (Region.ready md ops listed).contains i = true)
    (hQ : ∀ c a w, Q (.panic c) (a.put oi.dst v) w → Q (.panic c) a w) (hy : YS P ops S oi v a) (hS : S w)
    (h : wpHIn F n P md ops Q S fuel (listed.setIfInBounds i true) (a.put oi.dst v) w) : wpHIn F n P md ops Q S (fuel + 1) listed a w :=
  wpHIn_first hro hi (Region.noSelect_spec hs) hQ fuel listed a w (Region.free_spec hi hf) (by simpa using hr) hy hS h
theorem wpHIn_all {rs : List Nat} {fuel : Nat} {listed : Array Bool} {a : Act} {w : World} (hr : Region.ready md ops listed = rs) (hne : rs ≠ [])
    (h : ∀ i ∈ rs, wpOpIn F n P ops Q i (fun a' w' => S w' ∧ wpHIn F n P md ops Q S fuel (listed.setIfInBounds i true) a' w') a w) : wpHIn F n P md ops Q S (fuel + 1) listed a w :=
  ⟨fun h0 => absurd (hr ▸ h0) hne, hr ▸ h⟩
theorem wpHIn_done {listed : Array Bool} {a : Act} {w : World} (hr : Region.ready md ops listed = []) (h : Q .normal a w) : ∀ fuel, wpHIn F n P md ops Q S fuel listed a w
  | 0 => ⟨hr, h⟩
  | _ + 1 => ⟨fun _ => h, by rw [hr]; simp⟩
theorem wpIn_region_heldS {id : Nat} {a : Act} {w : World} (hm : P.follows .mixedOrders = true) (hS : S w.drew)
    (h : S w.drew → wpHIn F n P .any ops Q S ops.size (Array.replicate ops.size false) a w.drew) : (Code.region id ops true).wpIn F n P Q a w :=
  wpIn_region_any hm (wpHIn_any _ _ _ _ (h hS))
/-- One step of a walk: operation i is carried out next; behind it S is shown and handed on. -/
theorem wpHIn_one {i : Nat} {o : Oper} {fuel : Nat} {listed : Array Bool} {a : Act} {w : World} (ho : ops[i]? = some o)
    (h : ∀ K' : Act → World → Prop, Hid (∀ a w, S w → (S w → wpHIn F n P md ops Q S fuel (listed.setIfInBounds i true) a w) → K' a w) → if Region.wanted o (yielded ops a.tmps) = true then Oper.wpIn F n P o a w K' Q else (∀ f, o.about P w a.eval = some f → F.fn f) ∧ K' (a.put o.dst undef) w) :
    wpOpIn F n P ops Q i (fun a' w' => S w' ∧ wpHIn F n P md ops Q S fuel (listed.setIfInBounds i true) a' w') a w :=
  wpOpIn_step ho fun K' hK => h K' (Lib.hid fun a w hS hW => hK a w ⟨hS, hW hS⟩)
/-- Number i is left out by its guard. -/
theorem stepIn_skip (i d : Nat) {fuel : Nat} {listed : Array Bool} {w : World} {oi : Oper} {ts : List Value} {ds} (hro : F.round = none) (hi : ops[i]? = some oi) (hd : oi.dst = some d)
    (hs : Region.noSelect ops = true) (hf : Region.free md ops listed i = true) (hr : (Region.ready md ops listed).contains i = true)
    (hQ : ∀ c a w, Q (.panic c) (a.put oi.dst undef) w → Q (.panic c) a w) (hw : Region.wanted oi (yielded ops ts.toArray) = false) (hab : ∀ w, oi.about P w (Act.eval { tmps := ts.toArray, defers := ds }) = none) (hS : S w)
    (h : wpHIn F n P md ops Q S fuel (listed.setIfInBounds i true) { tmps := (ts.set d undef).toArray, defers := ds } w) : wpHIn F n P md ops Q S (fuel + 1) listed { tmps := ts.toArray, defers := ds } w :=
  wpHIn_take hro hi hs hf hr hQ ⟨Or.inr ⟨hw, rfl⟩, hab⟩ hS (by rw [hd, put_at]; exact h)
/-- Number i yields v in every world that meets S. -/
theorem stepIn_read (i d : Nat) {v : Value} {fuel : Nat} {listed : Array Bool} {w : World} {oi : Oper} {ts : List Value} {ds} (hro : F.round = none) (hi : ops[i]? = some oi) (hd : oi.dst = some d)
    (hs : Region.noSelect ops = true) (hf : Region.free md ops listed i = true) (hr : (Region.ready md ops listed).contains i = true)
    (hQ : ∀ c a w, Q (.panic c) (a.put oi.dst v) w → Q (.panic c) a w) (hw : Region.wanted oi (yielded ops ts.toArray) = true) (hab : ∀ w, oi.about P w (Act.eval { tmps := ts.toArray, defers := ds }) = none)
    (hy : ∀ w, S w → (execOp (Act.eval { tmps := ts.toArray, defers := ds }) oi).run P w = .ok (.value v) w) (hS : S w)
    (h : wpHIn F n P md ops Q S fuel (listed.setIfInBounds i true) { tmps := (ts.set d v).toArray, defers := ds } w) : wpHIn F n P md ops Q S (fuel + 1) listed { tmps := ts.toArray, defers := ds } w :=
  wpHIn_take hro hi hs hf hr hQ ⟨Or.inl ⟨hw, hy⟩, hab⟩ hS (by rw [hd, put_at]; exact h)
end

section
variable {F : Fence} {n : Nat} {P : Program} {ops : Array Oper} {Q : Exit → Act → World → Prop} {md : Region.Mode} {S : World → Prop}
/-- Whatever order is picked, and S holds behind every operation that is carried out and not of Y. -/
def wpHY (F : Fence) (n : Nat) (P : Program) (md : Region.Mode) (ops : Array Oper) (Q : Exit → Act → World → Prop) (S : World → Prop) (Y : List Nat) : Nat → Array Bool → Act → World → Prop
  | 0, listed, a, w => Region.ready md ops listed = [] ∧ Q .normal a w
  | fuel + 1, listed, a, w => (Region.ready md ops listed = [] → Q .normal a w) ∧ ∀ i ∈ Region.ready md ops listed, wpOpIn F n P ops Q i (fun a' w' => (Y.contains i = false → S w') ∧ wpHY F n P md ops Q S Y fuel (listed.setIfInBounds i true) a' w') a w
theorem wpHY_any {Y : List Nat} : ∀ (fuel : Nat) (listed : Array Bool) (a : Act) (w : World), wpHY F n P md ops Q S Y fuel listed a w → wpAnyIn F n P md ops Q fuel listed a w
  | 0, _, _, _, h => h
  | fuel + 1, _, _, _, h => ⟨h.1, fun i hi => wpOpIn_mono (fun a' w' h' => wpHY_any fuel _ a' w' h'.2) (h.2 i hi)⟩
/-- Nothing of T is done yet, and whatever of it is not i waits for something of it; Y lies in it. -/
def tailOk (md : Region.Mode) (ops : Array Oper) (listed : Array Bool) (Y : List Nat) (i : Nat) (T : List Nat) : Bool :=
  Y.all (fun y => T.contains y) && T.all fun k => !listed.getD k true && (k == i || match ops[k]? with | some o => o.after.toList.any (fun e => Region.binds md e && T.contains e.on) | none => false)
theorem tailOk_listed {listed : Array Bool} {Y : List Nat} {i : Nat} {T : List Nat} (h : tailOk md ops listed Y i T = true) : ∀ k ∈ T, listed.getD k true = false := fun k hk => by
  unfold tailOk at h
  rw [Bool.and_eq_true] at h
  have h1 := List.all_eq_true.1 h.2 k hk
  rw [Bool.and_eq_true] at h1
  simpa using h1.1
theorem tailOk_not {listed : Array Bool} {Y : List Nat} {i : Nat} {T : List Nat} (h : tailOk md ops listed Y i T = true) {j : Nat} (hj : j ∈ Region.ready md ops listed) (hji : j ≠ i) : j ∉ T := fun hk => by
  have hl := tailOk_listed h
  unfold tailOk at h
  rw [Bool.and_eq_true] at h
  have h1 := List.all_eq_true.1 h.2 j hk
  rw [Bool.and_eq_true] at h1
  have h2 := h1.2
  obtain ⟨_, o, ho, hall⟩ := mem_ready.1 hj
  rw [ho] at h2
  simp only [Bool.or_eq_true, beq_iff_eq, hji, false_or] at h2
  obtain ⟨e, he, hb⟩ := List.any_eq_true.1 h2
  rw [Bool.and_eq_true] at hb
  have h3 := hall e (by simpa using he) hb.1
  have h4 := hl e.on (by simpa using hb.2)
  rcases Nat.lt_or_ge e.on listed.size with h' | h'
  · simp [h'] at h3 h4; rw [h4] at h3; cases h3
  · simp [Array.getElem?_eq_none h'] at h3
theorem tailOk_set {listed : Array Bool} {Y : List Nat} {i : Nat} {T : List Nat} (h : tailOk md ops listed Y i T = true) {j : Nat} (hj : j ∉ T) : tailOk md ops (listed.setIfInBounds j true) Y i T = true := by
  unfold tailOk at *
  rw [Bool.and_eq_true] at *
  refine ⟨h.1, List.all_eq_true.2 fun k hk => ?_⟩
  have h1 := List.all_eq_true.1 h.2 k hk
  rw [Bool.and_eq_true] at *
  have hne : j ≠ k := fun e => hj (e ▸ hk)
  exact ⟨by rw [getD_set_ne true hne]; exact h1.1, h1.2⟩
theorem tailOk_Y {listed : Array Bool} {Y : List Nat} {i : Nat} {T : List Nat} (h : tailOk md ops listed Y i T = true) {j : Nat} (hj : j ∉ T) : Y.contains j = false := by
  unfold tailOk at h
  rw [Bool.and_eq_true] at h
  cases hc : Y.contains j with
  | false => rfl
  | true => exact absurd (by simpa using List.all_eq_true.1 h.1 j (by simpa using hc)) hj
theorem wpHY_first {Y T : List Nat} {i : Nat} {oi : Oper} {v : Value} (hro : F.round = none) (hi : ops[i]? = some oi) (hsel : ∀ (j : Nat) (o : Oper) cs b, ops[j]? = some o → o.op ≠ .select cs b)
    (hQ : ∀ c a w, Q (.panic c) (a.put oi.dst v) w → Q (.panic c) a w) :
    ∀ (fuel : Nat) (listed : Array Bool) (a : Act) (w : World),
      (∀ j oj, ops[j]? = some oj → j ≠ i → listed.getD j true = false → (∀ e ∈ oj.after, Region.binds md e = true → e.on ≠ i) → oi.apart ops oj = true) →
      tailOk md ops listed Y i T = true → i ∈ Region.ready md ops listed → YS P ops S oi v a → S w →
      wpHY F n P md ops Q S Y fuel (listed.setIfInBounds i true) (a.put oi.dst v) w → wpHY F n P md ops Q S Y (fuel + 1) listed a w := by
  intro fuel
  induction fuel with
  | zero =>
    intro listed a w _ hT hr hy hS H
    refine ⟨fun h => (by rw [h] at hr; cases hr), fun j hj => ?_⟩
    by_cases hji : j = i
    · subst hji; exact hy.op hro hi hS ⟨fun _ => hS, H⟩
    · have := ready_mono hj hji
      rw [H.1] at this
      cases this
  | succ fuel ih =>
    intro listed a w hfree hT hr hy hS H
    refine ⟨fun h => (by rw [h] at hr; cases hr), fun j hj => ?_⟩
    by_cases hji : j = i
    · subst hji; exact hy.op hro hi hS ⟨fun _ => hS, H⟩
    · have h1 := H.2 j (ready_mono hj hji)
      have hjT := tailOk_not hT hj hji
      obtain ⟨hjun, oj, hoj, hall⟩ := mem_ready.1 hj
      have hnot : ∀ e ∈ oj.after, Region.binds md e = true → e.on ≠ i := fun e he hb heq => by
        have h1 := hall e he hb
        have h0 := (mem_ready.1 hr).1
        rw [heq] at h1
        rcases Nat.lt_or_ge i listed.size with h' | h'
        · simp [h'] at h0 h1; rw [h0] at h1; cases h1
        · simp [Array.getElem?_eq_none h'] at h1
      have h2 := ys_put hro hoj (hfree j oj hoj hji hjun hnot) (fun cs b => hsel i oi cs b hi) (fun cs b => hsel j oj cs b hoj) hQ hy h1
      have hfree' : ∀ k ok, ops[k]? = some ok → k ≠ i → (listed.setIfInBounds j true).getD k true = false →
          (∀ e ∈ ok.after, Region.binds md e = true → e.on ≠ i) → oi.apart ops ok = true := fun k ok hk hki hun hno => by
        refine hfree k ok hk hki ?_ hno
        by_cases hjk : j = k
        · subst hjk; exact hjun
        · rw [getD_set_ne true hjk] at hun; exact hun
      refine wpOpIn_mono (fun a' w' h3 => ⟨h3.2.1, ih (listed.setIfInBounds j true) a' w' hfree' (tailOk_set hT hjT) (ready_mono hr (Ne.symm hji)) h3.1 (h3.2.1 (tailOk_Y hT hjT)) ?_⟩) h2
      rw [Array.setIfInBounds_comm _ _ hji]
      exact h3.2.2
theorem wpHY_take {Y T : List Nat} {i : Nat} {oi : Oper} {v : Value} {fuel : Nat} {listed : Array Bool} {a : Act} {w : World} (hro : F.round = none) (hi : ops[i]? = some oi)
    (hs : Region.noSelect ops = true) (hf : Region.free md ops listed i = true) (hr : (Region.ready md ops listed).contains i = true) (hT : tailOk md ops listed Y i T = true)
    (hQ : ∀ c a w, Q (.panic c) (a.put oi.dst v) w → Q (.panic c) a w) (hy : YS P ops S oi v a) (hS : S w)
    (h : wpHY F n P md ops Q S Y fuel (listed.setIfInBounds i true) (a.put oi.dst v) w) : wpHY F n P md ops Q S Y (fuel + 1) listed a w :=
  wpHY_first (T := T) hro hi (Region.noSelect_spec hs) hQ fuel listed a w (Region.free_spec hi hf) hT (by simpa using hr) hy hS h
theorem wpHY_all {Y : List Nat} {rs : List Nat} {fuel : Nat} {listed : Array Bool} {a : Act} {w : World} (hr : Region.ready md ops listed = rs) (hne : rs ≠ [])
    (h : ∀ i ∈ rs, wpOpIn F n P ops Q i (fun a' w' => (Y.contains i = false → S w') ∧ wpHY F n P md ops Q S Y fuel (listed.setIfInBounds i true) a' w') a w) : wpHY F n P md ops Q S Y (fuel + 1) listed a w :=
  ⟨fun h0 => absurd (hr ▸ h0) hne, hr ▸ h⟩
theorem wpHY_done {Y : List Nat} {listed : Array Bool} {a : Act} {w : World} (hr : Region.ready md ops listed = []) (h : Q .normal a w) : ∀ fuel, wpHY F n P md ops Q S Y fuel listed a w
  | 0 => ⟨hr, h⟩
  | _ + 1 => ⟨fun _ => h, by rw [hr]; simp⟩
theorem wpIn_region_heldY (Y : List Nat) {id : Nat} {a : Act} {w : World} (hm : P.follows .mixedOrders = true) (hS : S w.drew)
    (h : S w.drew → wpHY F n P .any ops Q S Y ops.size (Array.replicate ops.size false) a w.drew) : (Code.region id ops true).wpIn F n P Q a w :=
  wpIn_region_any hm (wpHY_any _ _ _ _ (h hS))
/-- Only number i can come up; behind it S is shown and handed on. -/
theorem stepY_one (i : Nat) {Y : List Nat} {o : Oper} {fuel : Nat} {listed : Array Bool} {a : Act} {w : World} (ho : ops[i]? = some o) (hr : Region.ready md ops listed = [i]) (hy : Y.contains i = false)
    (h : ∀ K' : Act → World → Prop, Hid (∀ a w, S w → (S w → wpHY F n P md ops Q S Y fuel (listed.setIfInBounds i true) a w) → K' a w) → if Region.wanted o (yielded ops a.tmps) = true then Oper.wpIn F n P o a w K' Q else (∀ f, o.about P w a.eval = some f → F.fn f) ∧ K' (a.put o.dst undef) w) :
    wpHY F n P md ops Q S Y (fuel + 1) listed a w :=
  wpHY_all (rs := [i]) hr (by simp) (fun j hj => by
    rw [List.mem_singleton] at hj
    subst hj
    exact wpOpIn_step ho fun K' hK => h K' (Lib.hid fun a w hS hW => hK a w ⟨fun _ => hS, hW hS⟩))
/-- Only number i can come up; S is not shown behind it. -/
theorem stepY_last (i : Nat) {Y : List Nat} {o : Oper} {fuel : Nat} {listed : Array Bool} {a : Act} {w : World} (ho : ops[i]? = some o) (hr : Region.ready md ops listed = [i]) (hy : Y.contains i = true)
    (h : ∀ K' : Act → World → Prop, Hid (∀ a w, wpHY F n P md ops Q S Y fuel (listed.setIfInBounds i true) a w → K' a w) → if Region.wanted o (yielded ops a.tmps) = true then Oper.wpIn F n P o a w K' Q else (∀ f, o.about P w a.eval = some f → F.fn f) ∧ K' (a.put o.dst undef) w) :
    wpHY F n P md ops Q S Y (fuel + 1) listed a w :=
  wpHY_all (rs := [i]) hr (by simp) (fun j hj => by
    rw [List.mem_singleton] at hj
    subst hj
    exact wpOpIn_step ho fun K' hK => h K' (Lib.hid fun a w hW => hK a w ⟨fun e => (by rw [hy] at e; cases e), hW⟩))
/-- Number i is left out by its guard. -/
theorem stepY_skip (i d : Nat) (T : List Nat) {Y : List Nat} {fuel : Nat} {listed : Array Bool} {w : World} {oi : Oper} {ts : List Value} {ds} (hro : F.round = none) (hi : ops[i]? = some oi) (hd : oi.dst = some d)
    (hs : Region.noSelect ops = true) (hf : Region.free md ops listed i = true) (hr : (Region.ready md ops listed).contains i = true) (hT : tailOk md ops listed Y i T = true)
    (hQ : ∀ c a w, Q (.panic c) (a.put oi.dst undef) w → Q (.panic c) a w) (hw : Region.wanted oi (yielded ops ts.toArray) = false) (hab : ∀ w, oi.about P w (Act.eval { tmps := ts.toArray, defers := ds }) = none) (hS : S w)
    (h : wpHY F n P md ops Q S Y fuel (listed.setIfInBounds i true) { tmps := (ts.set d undef).toArray, defers := ds } w) : wpHY F n P md ops Q S Y (fuel + 1) listed { tmps := ts.toArray, defers := ds } w :=
  wpHY_take (T := T) hro hi hs hf hr hT hQ ⟨Or.inr ⟨hw, rfl⟩, hab⟩ hS (by rw [hd, put_at]; exact h)
/-- Number i yields v in every world that meets S; all of Y come after it. -/
theorem stepY_read (i d : Nat) (T : List Nat) {Y : List Nat} {v : Value} {fuel : Nat} {listed : Array Bool} {w : World} {oi : Oper} {ts : List Value} {ds} (hro : F.round = none) (hi : ops[i]? = some oi) (hd : oi.dst = some d)
    (hs : Region.noSelect ops = true) (hf : Region.free md ops listed i = true) (hr : (Region.ready md ops listed).contains i = true) (hT : tailOk md ops listed Y i T = true)
    (hQ : ∀ c a w, Q (.panic c) (a.put oi.dst v) w → Q (.panic c) a w) (hw : Region.wanted oi (yielded ops ts.toArray) = true) (hab : ∀ w, oi.about P w (Act.eval { tmps := ts.toArray, defers := ds }) = none)
    (hy : ∀ w, S w → (execOp (Act.eval { tmps := ts.toArray, defers := ds }) oi).run P w = .ok (.value v) w) (hS : S w)
    (h : wpHY F n P md ops Q S Y fuel (listed.setIfInBounds i true) { tmps := (ts.set d v).toArray, defers := ds } w) : wpHY F n P md ops Q S Y (fuel + 1) listed { tmps := ts.toArray, defers := ds } w :=
  wpHY_take (T := T) hro hi hs hf hr hT hQ ⟨Or.inl ⟨hw, hy⟩, hab⟩ hS (by rw [hd, put_at]; exact h)
end

end Go.Proofs.Ytkkfgnnhdcmmjaa
