/- Mathematics of heavy hitters: counts, errors, what is not listed. -/
import Derived.Test.YtophppnllkadoaaS13
import Derived.Test.YtophppnllkadoaaS3
namespace Go.Proofs.Ytophppnllkadoaa
open Go.RowKit

/-- The sum of the counts. -/
def sumC : List Hv → Int
  | [] => 0
  | r :: L => r.2.1 + sumC L
theorem sumC_perm {L M : List Hv} (h : L.Perm M) : sumC L = sumC M := by
  induction h with
  | nil => rfl
  | cons x _ ih => show _ + _ = _ + _; rw [ih]
  | swap x y l => show _ + (_ + _) = _ + (_ + _); omega
  | trans _ _ h1 h2 => exact h1.trans h2
theorem sumC_snoc : ∀ (L : List Hv) (r : Hv), sumC (L ++ [r]) = sumC L + r.2.1
  | [], r => by simp [sumC]
  | q :: L, r => by show q.2.1 + sumC (L ++ [r]) = q.2.1 + sumC L + r.2.1; rw [sumC_snoc L r]; omega
/-- The sum of the first i numbers. -/
def allS (A : List Ad) : Nat → Int
  | 0 => 0
  | i + 1 => allS A i + (A.getD i (0, 0)).2
theorem allS_at {A : List Ad} {i : Nat} {k n : Int} (h : A[i]? = some (k, n)) : allS A (i + 1) = allS A i + n := by
  show _ + _ = _
  rw [List.getD_eq_getElem?_getD, h]
  rfl
theorem ply_n {A : List Ad} {i j : Nat} {k n : Int} (h : PlyP A i) (hj : j < i) (hr : A[j]? = some (k, n)) : 1 ≤ n ∧ n ≤ 1000000 := by
  have hb := h j k n hj hr
  unfold addB at hb
  rw [Bool.and_eq_true, Bool.and_eq_true] at hb
  exact (adB_iff.1 hb.2.1).2
theorem PlyP.mono {A : List Ad} {i j : Nat} (h : PlyP A i) (hij : j ≤ i) : PlyP A j := fun q k n hq hr => h q k n (by omega) hr
theorem allS_bnd {A : List Ad} : ∀ i, i ≤ A.length → PlyP A i → 0 ≤ allS A i ∧ allS A i ≤ (i : Int) * 1000000
  | 0, _, _ => by simp [allS]
  | i + 1, hi, h => by
    obtain ⟨k, n, hr⟩ := at2_of_lt (L := A) (i := i) (by omega)
    have h1 := allS_bnd i (by omega) (h.mono (by omega))
    have h2 := ply_n h (by omega) hr
    rw [allS_at hr]
    push_cast
    omega
theorem tcW_bnd {A : List Ad} (key : Int) : ∀ i, i ≤ A.length → i ≤ 1000 → PlyP A i → 0 ≤ tcW A key i ∧ tcW A key i ≤ (i : Int) * 1000000
  | 0, _, _, _ => by simp [tcW]
  | i + 1, hi, hm, h => by
    obtain ⟨k, n, hr⟩ := at2_of_lt (L := A) (i := i) (by omega)
    have h1 := tcW_bnd key i (by omega) (by omega) (h.mono (by omega))
    have h2 := ply_n h (by omega) hr
    rw [tcW_at hr]
    push_cast
    split
    · rw [IntWalk.i64_in _ (by omega)]; omega
    · omega
theorem tcW_step {A : List Ad} {key : Int} {i : Nat} {k n : Int} (hm : i ≤ 1000) (h : PlyP A (i + 1)) (hr : A[i]? = some (k, n)) : tcW A key (i + 1) = if k = key then tcW A key i + n else tcW A key i := by
  have hl := lt_of_at hr
  have h1 := tcW_bnd (A := A) key i (by omega) hm (h.mono (by omega))
  have h2 := ply_n h (by omega) hr
  rw [tcW_at hr]
  split
  · rw [IntWalk.i64_in _ (by omega)]
  · rfl
/-- What is true behind the first i additions. -/
structure HvI (A : List Ad) (i : Nat) (T : List Hv) : Prop where
  sum : sumC T = allS A i
  lo : ∀ h ∈ T, h.2.1 - h.2.2 ≤ tcW A h.1 i
  up : ∀ h ∈ T, tcW A h.1 i ≤ h.2.1
  out : ∀ key, (∀ h ∈ T, h.1 ≠ key) → (T.length < 4 → tcW A key i = 0) ∧ ∀ h ∈ T, tcW A key i ≤ h.2.1
theorem HvI.step {A : List Ad} {i : Nat} {T : List Hv} {k n : Int} (h : HvI A i T) (hT : TopP T) (hm : i ≤ 1000) (hP : PlyP A (i + 1)) (hr : A[i]? = some (k, n)) : HvI A (i + 1) (addOut T k n) := by
  have hn := ply_n hP (by omega) hr
  have hst : ∀ key, tcW A key (i + 1) = if k = key then tcW A key i + n else tcW A key i := fun key => tcW_step hm hP hr
  have hne : ∀ key, key ≠ k → tcW A key (i + 1) = tcW A key i := fun key e => by rw [hst key, if_neg (fun e2 => e e2.symm)]
  have heq : tcW A k (i + 1) = tcW A k i + n := by rw [hst k, if_pos rfl]
  have hbase : ∀ r ∈ addBase T k, r ∈ T ∧ r.1 ≠ k := fun r hr => ⟨(base_sub T k).subset hr, base_key hr⟩
  have hsum : sumC (addOut T k n) = (addNew T k n).2.1 + sumC (addBase T k) := sumC_perm (insH_perm _ _)
  have hmem : ∀ r, r ∈ addOut T k n ↔ r = addNew T k n ∨ r ∈ addBase T k := fun r => insH_mem
  have hall := allS_at hr
  by_cases hf : fndN T k < T.length
  · obtain ⟨⟨r, h1, h2⟩, _⟩ := fndN_spec T k hf
    have hnew : addNew T k n = (k, r.2.1 + n, r.2.2) := by unfold addNew; rw [if_pos hf, getD_at h1]
    have hb : addBase T k = addRest T k := by unfold addBase; rw [if_pos hf]
    have hperm := set_perm r k T _ r h1 h2 (hT.pair.imp fun h => h.1)
    have hset : T.set (fndN T k) r = T := by
      apply List.ext_getElem?
      intro q
      rw [List.getElem?_set]
      split
      · rename_i e; subst e; exact h1.symm
      · rfl
    rw [hset] at hperm
    have hrT : r ∈ T := List.mem_of_getElem? h1
    have hs2 : sumC T = r.2.1 + sumC (addRest T k) := sumC_perm hperm
    have hlo := h.lo r hrT
    have hup := h.up r hrT
    rw [h2] at hlo hup
    refine ⟨by rw [hsum, hnew, hb, hall, ← h.sum, hs2]; show r.2.1 + n + _ = _; omega, fun q hq => ?_, fun q hq => ?_, fun key hk => ?_⟩
    · rcases (hmem q).1 hq with rfl | hq
      · rw [hnew]; show r.2.1 + n - r.2.2 ≤ tcW A k (i + 1); rw [heq]; omega
      · rw [hne _ (hbase q hq).2]; exact h.lo q (hbase q hq).1
    · rcases (hmem q).1 hq with rfl | hq
      · rw [hnew]; show tcW A k (i + 1) ≤ r.2.1 + n; rw [heq]; omega
      · rw [hne _ (hbase q hq).2]; exact h.up q (hbase q hq).1
    · have hkk : key ≠ k := fun e => hk _ ((hmem _).2 (.inl rfl)) (by rw [new_key, e])
      have hkT : ∀ q ∈ T, q.1 ≠ key := fun q hq => by
        by_cases e : q.1 = k
        · rw [e]; exact hkk.symm
        · exact hk q ((hmem q).2 (.inr (by rw [hb]; unfold addRest; exact List.mem_filter.2 ⟨hq, decide_eq_true e⟩)))
      obtain ⟨o1, o2⟩ := h.out key hkT
      have hlen : (addOut T k n).length = T.length := by
        unfold addOut
        rw [insH_len, hb]
        have := hperm.length_eq
        rw [List.length_cons] at this
        omega
      rw [hne key hkk]
      refine ⟨fun hl => o1 (by omega), fun q hq => ?_⟩
      rcases (hmem q).1 hq with rfl | hq
      · have := o2 r hrT; rw [hnew]; show _ ≤ r.2.1 + n; omega
      · exact o2 q (hbase q hq).1
  · have hkT := fnd_mem hf
    obtain ⟨o1, o2⟩ := h.out k hkT
    have htk := (tcW_bnd (A := A) k i (by have := lt_of_at hr; omega) hm (hP.mono (by omega))).1
    by_cases h4 : T.length = 4
    · have hnew : addNew T k n = (k, (T.getD 3 (0, 0, 0)).2.1 + n, (T.getD 3 (0, 0, 0)).2.1) := by unfold addNew; rw [if_neg hf, if_pos h4]
      have hb : addBase T k = T.take 3 := by unfold addBase; rw [if_neg hf, if_pos h4]
      obtain ⟨x, y, z, hl⟩ := at_of_lt (L := T) (i := 3) (by omega)
      rw [getD_at hl] at hnew
      have hlT : (x, y, z) ∈ T := List.mem_of_getElem? hl
      have hsplit : T = T.take 3 ++ [(x, y, z)] := by
        have := take_snoc3 hl
        rw [List.take_of_length_le (by omega)] at this
        exact this
      have hs2 : sumC T = sumC (T.take 3) + y := by
        have := congrArg sumC hsplit
        rw [sumC_snoc] at this
        exact this
      have hyb : ∀ q ∈ T.take 3, y ≤ q.2.1 := fun q hq => by
        obtain ⟨j, hj⟩ := List.getElem?_of_mem hq
        have hj3 : j < 3 := by have := lt_of_at hj; rw [List.length_take] at this; omega
        rw [List.getElem?_take_of_lt hj3] at hj
        have := (hT.2.2 j 3 q (x, y, z) hj3 hj hl).2
        rw [ah_iff] at this
        simp only at this
        omega
      have hbound : ∀ t : Int, t ≤ y → ∀ q ∈ addOut T k n, t ≤ q.2.1 := fun t ht q hq => by
        rcases (hmem q).1 hq with rfl | hq
        · rw [hnew]; show t ≤ y + n; omega
        · rw [hb] at hq; have := hyb q hq; omega
      have hoy := o2 _ hlT
      simp only at hoy
      refine ⟨by rw [hsum, hnew, hb, hall, ← h.sum, hs2]; show y + n + _ = _; omega, fun q hq => ?_, fun q hq => ?_, fun key hk => ?_⟩
      · rcases (hmem q).1 hq with rfl | hq
        · rw [hnew]; show y + n - y ≤ tcW A k (i + 1); rw [heq]; omega
        · rw [hne _ (hbase q hq).2]; exact h.lo q (hbase q hq).1
      · rcases (hmem q).1 hq with rfl | hq
        · rw [hnew]; show tcW A k (i + 1) ≤ y + n; rw [heq]; omega
        · rw [hne _ (hbase q hq).2]; exact h.up q (hbase q hq).1
      · have hkk : key ≠ k := fun e => hk _ ((hmem _).2 (.inl rfl)) (by rw [new_key, e])
        have hlen : (addOut T k n).length = 4 := by
          unfold addOut
          rw [insH_len, hb, List.length_take, h4]
          rfl
        rw [hne key hkk]
        refine ⟨fun hl => by omega, hbound _ ?_⟩
        by_cases ex : x = key
        · have := h.up _ hlT
          simp only at this
          rw [ex] at this
          exact this
        · refine (h.out key fun q hq => ?_).2 _ hlT
          rw [hsplit, List.mem_append, List.mem_singleton] at hq
          rcases hq with hq | rfl
          · exact hk q ((hmem q).2 (.inr (by rw [hb]; exact hq)))
          · exact ex
    · have hnew : addNew T k n = (k, n, 0) := by unfold addNew; rw [if_neg hf, if_neg h4]
      have hb : addBase T k = T := by unfold addBase; rw [if_neg hf, if_neg h4]
      have ht0 := o1 (by have := hT.1; omega)
      refine ⟨by rw [hsum, hnew, hb, hall, ← h.sum]; show n + _ = _; omega, fun q hq => ?_, fun q hq => ?_, fun key hk => ?_⟩
      · rcases (hmem q).1 hq with rfl | hq
        · rw [hnew]; show n - 0 ≤ tcW A k (i + 1); rw [heq]; omega
        · rw [hne _ (hbase q hq).2]; exact h.lo q (hbase q hq).1
      · rcases (hmem q).1 hq with rfl | hq
        · rw [hnew]; show tcW A k (i + 1) ≤ n; rw [heq]; omega
        · rw [hne _ (hbase q hq).2]; exact h.up q (hbase q hq).1
      · have hkk : key ≠ k := fun e => hk _ ((hmem _).2 (.inl rfl)) (by rw [new_key, e])
        have hkT2 : ∀ q ∈ T, q.1 ≠ key := fun q hq => hk q ((hmem q).2 (.inr (by rw [hb]; exact hq)))
        obtain ⟨p1, p2⟩ := h.out key hkT2
        have hz := p1 (by have := hT.1; omega)
        rw [hne key hkk]
        refine ⟨fun _ => hz, fun q hq => ?_⟩
        rcases (hmem q).1 hq with rfl | hq
        · rw [hnew, hz]; show (0 : Int) ≤ n; omega
        · exact p2 q (hbase q hq).1
theorem ply_inv {A : List Ad} : ∀ i, i ≤ A.length → i ≤ 1000 → PlyP A i → HvI A i (plyT A i)
  | 0, _, _, _ => ⟨rfl, fun h hh => by simp [plyT] at hh, fun h hh => by simp [plyT] at hh, fun key _ => ⟨fun _ => rfl, fun h hh => by simp [plyT] at hh⟩⟩
  | i + 1, hi, hm, h => by
    obtain ⟨k, n, hr⟩ := at2_of_lt (L := A) (i := i) (by omega)
    have hb := h i k n (by omega) hr
    have h1 := ply_inv i (by omega) (by omega) (h.mono (by omega))
    have hT := plyT_top i (by omega) (h.mono (by omega))
    rw [plyT_at hr]
    unfold addL
    rw [if_pos hb]
    exact h1.step hT (by omega) h hr
/-- A key that is not listed is no heavy one. -/
theorem HvI.light {A : List Ad} {i : Nat} {T : List Hv} (h : HvI A i T) (hl : T.length ≤ 4) (h0 : 0 ≤ allS A i) {key : Int} (hk : ∀ r ∈ T, r.1 ≠ key) : tcW A key i * 4 ≤ allS A i := by
  obtain ⟨o1, o2⟩ := h.out key hk
  by_cases h4 : T.length < 4
  · rw [o1 h4]; omega
  · rw [← h.sum]
    match T, hl, h4 with
    | [a, b, c, d], _, _ =>
      have ha := o2 a (by simp)
      have hb := o2 b (by simp)
      have hc := o2 c (by simp)
      have hd := o2 d (by simp)
      show _ ≤ a.2.1 + (b.2.1 + (c.2.1 + (d.2.1 + 0)))
      omega
    | [], _, h4 => simp at h4
    | [a], _, h4 => simp at h4
    | [a, b], _, h4 => simp at h4
    | [a, b, c], _, h4 => simp at h4
    | a :: b :: c :: d :: e :: l, hl, _ => simp at hl

end Go.Proofs.Ytophppnllkadoaa
