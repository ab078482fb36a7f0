/- The model's l01Parts as a contract. -/
import Derived.Test.YtegffibamkaeiaaDoorWt
import Derived.Test.YtegffibamkaeiaaDoorMq
import Derived.OwnWalk
import Derived.Laws.AppendOwn
namespace Go.Proofs.YtegffibamkaeiaaDoor
open Go.RowKit

def strs (L : List (List UInt8)) : List Value := L.map fun p => .string ⟨p.toArray⟩
theorem Tryd.info9 : (Tryd.prog.info? 9).map (fun i => (i.zero, i.size, i.bytes)) = some (some (.string ByteArray.empty), 1, 16) := by kernel_rfl

def PartsPost (w : World) (b : UInt8) (l : List UInt8) (e : Ending) (w' : World) : Prop :=
  ∃ v L, e = .returned v ∧ Split b l L ∧ w'.ownsRow w.heap.size 9 1 v L.length (strs L) ∧ Below w.heap.size w w'

/-- What stands ahead of byte i; or, behind the last round, the whole split. -/
def PartsRel (w wr : World) (b : UInt8) (l : List UInt8) (v : Value) (a : Int) (i : Nat) : Prop :=
  ∃ D : List (List UInt8), wr.ownsRow w.heap.size 9 1 v D.length (strs D) ∧ Below w.heap.size w wr ∧ D.length ≤ i ∧ ((i ≤ l.length ∧ ∃ k : Nat, a = (k : Int) ∧ Mid b l D k i) ∨ (i = l.length + 1 ∧ Split b l D))

theorem own_empty9 (w : World) : (w.alloc (.cells #[] 9)).ownsRow w.heap.size 9 1 (.slice (some ⟨w.heap.size, 0, none⟩) 0 0) 0 [] :=
  World.ownsRow_made w #[] 0 (Nat.le_refl _) (Nat.zero_le _) rfl

theorem extract_list (l : List UInt8) (k i : Nat) (_h : k ≤ i) : (⟨l.toArray⟩ : ByteArray).extract k i = ⟨((l.drop k).take (i - k)).toArray⟩ := by
  apply ByteArray.ext
  rw [ByteArray.data_extract]
  simp [List.extract_eq_take_drop]
theorem one_new (w : World) (v : Value) (T : TypeId) (j : Nat) (u : Value) (hj : [v][j]? = some u) : (w.alloc (.cells #[v] T)).cell? ((⟨w.heap.size, 0, none⟩ : Addr).add j) = some u := by
  match j, hj with
  | 0, hj => simp at hj; subst hj; simp [Addr.add]
  | j + 1, hj => simp at hj
theorem strs_snoc {wr : World} {B : Nat} {v : Value} {D : List (List UInt8)} {l : List UInt8} {k i : Nat} (h : k ≤ i) (hown : wr.ownsRow B 9 1 v (D.length + 1) (strs D ++ [.string ((⟨l.toArray⟩ : ByteArray).extract k i)])) :
    wr.ownsRow B 9 1 v (D ++ [(l.drop k).take (i - k)]).length (strs (D ++ [(l.drop k).take (i - k)])) := by
  rw [extract_list l k i h] at hown
  rw [List.length_append]
  unfold strs at *
  rw [List.map_append]
  exact hown
theorem own_grown9 {w wr w1 : World} {v : Value} {k : Nat} {xs : List Value} {o : Obj} (hb : Below w.heap.size w wr) (hown : wr.ownsRow w.heap.size 9 1 v k xs) (hg : (wr.alloc o).grownBy w1 v.ownBlock) : Below w.heap.size w w1 :=
  (hb.alloc hb.size o).grown hg (by have := hb.size; simp; omega) (fun k hk => (hown.lt k hk).1)

set_option maxHeartbeats 4000000 in
theorem parts_any (l : List UInt8) (b : UInt8) (w : World) (hl : l.length ≤ 1000) :
    Calls Tryd.prog 15 #[.string ⟨l.toArray⟩, .int .u8 (b.toNat : Int)] w (PartsPost w b l) := by
  obtain ⟨i9, hi, hz0, hz1, hz2⟩ := info_parts Tryd.info9
  have Hi := Lib.hid (And.intro hi (And.intro hz0 (And.intro hz1 hz2)))
  clear hi hz0 hz1 hz2
  go_enter Tryd.func15, Tryd.ntmps15
  go_wp2
  go_loopw [5, 6, 7] (fun v a j wr => ∃ (i : Nat) (x : Int), i ≤ l.length + 1 ∧ j = .int .i64 (i : Int) ∧ a = .int .i64 x ∧ PartsRel w wr b l v x i) (fun _ _ j _ => l.length + 1 - (intOf j).toNat)
  case atStart => exact ⟨0, 0, by omega, rfl, rfl, [], own_empty9 w, by go_grown, Nat.le_refl _, .inl ⟨Nat.zero_le _, 0, rfl, Mid.start b l⟩⟩
  case round =>
    obtain ⟨i, x, hi, rfl, rfl, D, hown, hbel, hDi, hM⟩ := hrel
    by_cases hend : i = l.length
    · subst hend
      rcases hM with ⟨_, k, rfl, hM⟩ | ⟨h, _⟩
      · have Ho := Lib.hid hown
        have Hb := Lib.hid hbel
        have HM := Lib.hid hM
        have hk : k ≤ l.length := hM.1
        clear hown hbel hM
        have t1 : ((l.length : Int) == (l.length : Int)) = true := by simp
        go_wp2_with (at_builtin; refine wpList_append_own _ rfl _ _ 34 rfl w.heap.size 9 i9 (.string ByteArray.empty) 1 16 Tryd.underlying34 Hi.out.1 Hi.out.2.1 Hi.out.2.2.1 Hi.out.2.2.2 rfl (by decide) _ _ _ rfl (Ho.out.alloc _) ⟨wr.heap.size, 0, none⟩ 1 1 [.string ((⟨l.toArray⟩ : ByteArray).extract k l.length)] rfl rfl ?c1 ?c2 ?c3 ?c4 ?c5 ?_)
        case c1 => exact fun j u hj => one_new wr _ 9 j u hj
        case c2 => intro u hu; simp at hu; subst hu; rfl
        case c3 => unfold maxLen; omega
        case c4 => omega
        case c5 => have := Hb.out.size; simp; omega
        intro v' w1 hown1 hgrow1 _
        have Hg := Lib.hid (And.intro hown1 hgrow1)
        clear hown1 hgrow1
        go_wp2
        go_roundw
        case rel => exact ⟨l.length + 1, _, Nat.le_refl _, by go_num, rfl, _, strs_snoc hk Hg.out.1, own_grown9 Hb.out Ho.out Hg.out.2, by simp <;> omega, .inr ⟨rfl, HM.out.done⟩⟩
        case measure => simp [intOf] <;> omega
      · omega
    · rcases hM with ⟨hle, k, rfl, hM⟩ | ⟨hlast, hS⟩
      · have hlt : i < l.length := by omega
        obtain ⟨c, hc⟩ : ∃ c, l[i]? = some c := ⟨l[i], List.getElem?_eq_getElem hlt⟩
        have hk : k ≤ i := hM.1
        have q0 : (0 : Int) ≤ (i : Int) := by omega
        have q1 : (i : Int) < (l.length : Int) := by omega
        have t1 : ((i : Int) == (l.length : Int)) = false := by rw [beq_eq_false_iff_ne]; omega
        have Ho := Lib.hid hown
        have Hb := Lib.hid hbel
        have HM := Lib.hid hM
        have Hc := Lib.hid hc
        have hce : l[i] = c := by rw [List.getElem?_eq_getElem hlt] at hc; simpa using hc
        clear hown hbel hM hc
        have hi2 : i < (⟨l.toArray⟩ : ByteArray).size := hlt
        have e : (⟨l.toArray⟩ : ByteArray)[i] = c := by rw [← hce]; exact List.getElem_toArray _
        by_cases hcb : c = b
        · have t2 : ((((⟨l.toArray⟩ : ByteArray)[i]).toNat : Int) == (b.toNat : Int)) = true := by rw [e, hcb, beq_iff_eq]
          have HE := Lib.hid (hcb ▸ Hc.out)
          clear e hce hcb
          go_wp2_with (at_builtin; refine wpList_append_own _ rfl _ _ 34 rfl w.heap.size 9 i9 (.string ByteArray.empty) 1 16 Tryd.underlying34 Hi.out.1 Hi.out.2.1 Hi.out.2.2.1 Hi.out.2.2.2 rfl (by decide) _ _ _ rfl (Ho.out.alloc _) ⟨wr.heap.size, 0, none⟩ 1 1 [.string ((⟨l.toArray⟩ : ByteArray).extract k i)] rfl rfl ?d1 ?d2 ?d3 ?d4 ?d5 ?_)
          case d1 => exact fun j u hj => one_new wr _ 9 j u hj
          case d2 => intro u hu; simp at hu; subst hu; rfl
          case d3 => unfold maxLen; omega
          case d4 => omega
          case d5 => have := Hb.out.size; simp; omega
          intro v' w1 hown1 hgrow1 _
          have Hg := Lib.hid (And.intro hown1 hgrow1)
          clear hown1 hgrow1
          go_wp2
          go_roundw
          case rel => exact ⟨i + 1, _, by omega, by go_num, rfl, _, strs_snoc hk Hg.out.1, own_grown9 Hb.out Ho.out Hg.out.2, by simp <;> omega, .inl ⟨by omega, i + 1, by omega, HM.out.cut HE.out⟩⟩
          case measure => simp [intOf]; omega
        · have hne : (c.toNat : Int) ≠ (b.toNat : Int) := fun h => hcb (UInt8.toNat_inj.1 (by omega))
          have t2 : ((((⟨l.toArray⟩ : ByteArray)[i]).toNat : Int) == (b.toNat : Int)) = false := by rw [e, beq_eq_false_iff_ne]; exact hne
          have HN := Lib.hid hcb
          clear e hce hcb hne
          go_wp2
          go_roundw
          case rel => exact ⟨i + 1, _, by omega, by go_num, rfl, D, Ho.out, Hb.out, by omega, .inl ⟨by omega, k, rfl, HM.out.skip Hc.out HN.out⟩⟩
          case measure => simp [intOf]; omega
      · have Ho := Lib.hid hown
        have Hb := Lib.hid hbel
        have HS := Lib.hid hS
        have t1 : ¬ ((i : Int) ≤ (l.length : Int)) := by omega
        clear hown hbel hS
        go_wp2
        go_ret
        exact ⟨_, D, rfl, HS.out, Ho.out, Hb.out⟩

end Go.Proofs.YtegffibamkaeiaaDoor
