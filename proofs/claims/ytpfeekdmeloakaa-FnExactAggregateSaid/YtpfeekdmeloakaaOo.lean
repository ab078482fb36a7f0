/- Rows of prefixes as lists of pairs; the append, and where the row then lies. -/
import Derived.Test.YtpfeekdmeloakaaWx
import Derived.Test.YtpfeekdmeloakaaMc
import Derived.OwnWalk
import Derived.Laws.AppendOwn
namespace Go.Proofs.Ytpfeekdmeloakaa.Old
open Go.RowKit

/-- The slice v holds the prefixes L in world w; its block, if it has one, lies from lo on and below hi, and is not frozen. -/
def Row (w : World) (lo hi : Nat) (v : Value) (L : List (Int × Int)) : Prop :=
  (L = [] ∧ ∃ a c, v = .slice a 0 c) ∨
  ∃ g cap, v = .slice (some ⟨g, 0, none⟩) L.length cap ∧ lo ≤ g ∧ g < hi ∧ L.length ≤ 1000000 ∧
    (∀ i p, L[i]? = some p → w.cell? ⟨g, i * 2, none⟩ = some (.int .i64 p.1) ∧ w.cell? ⟨g, i * 2 + 1, none⟩ = some (.int .i64 p.2)) ∧
    (∀ o, w.frozen? ⟨g, o, none⟩ = false)

theorem Row.below {w w' : World} {B lo hi : Nat} {v : Value} {L : List (Int × Int)} (h : Row w lo hi v L) (hb : Below B w w') (hB : hi ≤ B) : Row w' lo hi v L := by
  rcases h with h | ⟨g, cap, rfl, h1, h2, h3, h4, h5⟩
  · exact .inl h
  · refine .inr ⟨g, cap, rfl, h1, h2, h3, fun i p hp => ?_, fun o => ?_⟩
    · rw [hb.cell (p := ⟨g, i * 2, none⟩) (by show g < B; omega), hb.cell (p := ⟨g, i * 2 + 1, none⟩) (by show g < B; omega)]; exact h4 i p hp
    · rw [hb.frozen (p := ⟨g, o, none⟩) (by show g < B; omega)]; exact h5 o



/-- The cells of a list of prefixes. -/
def vals (L : List (Int × Int)) : List Value := L.flatMap fun p => [.int .i64 p.1, .int .i64 p.2]
theorem vals_len : ∀ L, (vals L).length = L.length * 2
  | [] => rfl
  | p :: L => by
    have e : vals (p :: L) = .int .i64 p.1 :: .int .i64 p.2 :: vals L := rfl
    rw [e, List.length_cons, List.length_cons, vals_len L, List.length_cons]; omega
theorem vals_app (L M : List (Int × Int)) : vals (L ++ M) = vals L ++ vals M := by simp [vals]
theorem vals_at : ∀ (L : List (Int × Int)) (i : Nat) (p : Int × Int), L[i]? = some p → (vals L)[i * 2]? = some (.int .i64 p.1) ∧ (vals L)[i * 2 + 1]? = some (.int .i64 p.2)
  | [], i, p, h => by simp at h
  | q :: L, 0, p, h => by
    simp only [List.getElem?_cons_zero, Option.some.injEq] at h
    subst h
    exact ⟨rfl, rfl⟩
  | q :: L, i + 1, p, h => by
    have := vals_at L i p (by simpa using h)
    have e : vals (q :: L) = .int .i64 q.1 :: .int .i64 q.2 :: vals L := rfl
    rw [e, show (i + 1) * 2 = i * 2 + 1 + 1 by omega]
    simpa using this

theorem row_of_own {w : World} {base : Nat} {v : Value} {L : List (Int × Int)} (h : w.ownsRow base 39 2 v L.length (vals L)) (hl : L.length ≤ 1000000) : Row w base w.heap.size v L := by
  have hlt := h.lt
  have hcells := fun g hg => h.cells (g := g) hg
  obtain ⟨h1, h2⟩ := h
  rcases h2 with ⟨rfl, h3⟩ | ⟨g, cap, cur, rfl, h3, h4, h5, h6, h7, h8⟩
  · exact .inl ⟨List.eq_nil_of_length_eq_zero h3, none, 0, rfl⟩
  · obtain ⟨_, hg⟩ := hlt g rfl
    refine .inr ⟨g, cap, rfl, h3, hg, hl, fun i p hp => ?_, fun o => ?_⟩
    · obtain ⟨a, b⟩ := vals_at L i p hp
      have e : ∀ j, (⟨g, 0, none⟩ : Addr).add j = ⟨g, j, none⟩ := fun j => by unfold Addr.add; split <;> simp_all
      have c0 := hcells g rfl _ _ a
      have c1 := hcells g rfl _ _ b
      rw [e] at c0 c1
      exact ⟨c0, c1⟩
    · simp [World.frozen?, h4]

theorem Try.info39 : (Try.prog.info? 39).map (fun i => (i.zero, i.size, i.bytes)) = some (some (.agg #[.int .i64 0, .int .i64 0]), 2, 16) := by kernel_rfl
theorem Try.under22 : Try.prog.underlying 54 = some (.slice 39) := Try.underlying54



section
variable {P : Program} (w : World)

theorem append_block (base : Nat) (t ty e : TypeId) (i : TypeInfo) (z : Value) (size bytes : Nat) (ht : P.underlying t = some (.slice e)) (hi : P.info? e = some i) (hz : i.zero = some z)
    (hsize : i.size = size) (hby : i.bytes = bytes)
    (v : Value) (n : Nat) (xs : List Value) (hown : w.ownsRow base e size v n xs)
    (a : Addr) (m c : Nat) (hm : 0 < m) (news : List Value) (hl : news.length = m * size) (hnews : ∀ j u, news[j]? = some u → w.cell? (a.add j) = some u) (h1 : ∀ u ∈ news, u.oneCell' = true)
    (h63 : n + m ≤ maxLen) (hbytes : (n + m) * bytes ≤ 140737488355328) {v' : Value} {w' : World}
    (hr : (Builtin.append_ #[t, t] ty #[v, .slice (some a) m c]).run P w = .ok v' w') : v'.ownBlock = v.ownBlock ∨ v'.ownBlock = some w.heap.size := by
  subst hsize
  subst hby
  have hsmall : n + m ≤ 9223372036854775807 := by simp only [maxLen] at h63; omega
  rcases hown.2 with ⟨rfl, rfl⟩ | ⟨g, cap, cur, rfl, hbg, hg, hnc, hcm, hcs, htake⟩
  · have h := run_append_nil (P := P) w t ty e i z ht hi hz a m c news hl hnews (by omega) (by omega) (by have hb := hbytes; simp only [Nat.zero_add] at hb; omega)
    rw [h] at hr
    cases hr
    exact .inr rfl
  · by_cases hroom : n + m ≤ cap
    · have hfit : n * i.size + news.length ≤ cur.size := by rw [hl, hcs, ← Nat.add_mul]; exact Nat.mul_le_mul_right _ hroom
      have h := run_append_room (P := P) w t ty e i ht hi g n cap cur hg a m c news hl hnews h1 hroom hfit
      rw [h] at hr
      cases hr
      exact .inl rfl
    · have holds : ∀ j u, xs[j]? = some u → w.cell? ((⟨g, 0, none⟩ : Addr).add j) = some u := hown.cells (g := g) rfl
      have h := run_append_grow (P := P) w t ty e i z ht hi hz ⟨g, 0, none⟩ n cap xs hown.1 holds a m c news hl hnews (by omega) (by omega) (growslice_fits (by omega) hbytes)
      rw [h] at hr
      cases hr
      exact .inr rfl

theorem wpList_append_where {ops : Array Oper} {rest : List Oper} {o : Oper} {a : Act} {Q : Exit → Act → World → Prop} (hgd : o.guard = none) (s x : Operand) (t : TypeId)
    (ho : o.op = .call { callee := .builtin .append, args := #[s, x], argTypes := #[t, t] })
    (base : Nat) (e : TypeId) (i : TypeInfo) (z : Value) (size bytes : Nat) (ht : P.underlying t = some (.slice e)) (hi : P.info? e = some i) (hz : i.zero = some z)
    (hsize : i.size = size) (hby : i.bytes = bytes) (hzs : z.cells.size = size) (hsz : 0 < size)
    (v : Value) (n : Nat) (xs : List Value) (hs : a.eval s = v) (hown : w.ownsRow base e size v n xs)
    (ad : Addr) (m c : Nat) (hm : 0 < m) (news : List Value) (hx : a.eval x = .slice (some ad) m c) (hl : news.length = m * size) (hnews : ∀ j u, news[j]? = some u → w.cell? (ad.add j) = some u) (h1 : ∀ u ∈ news, u.oneCell' = true)
    (h63 : n + m ≤ maxLen) (hbytes : (n + m) * bytes ≤ 140737488355328) (hbase : base ≤ w.heap.size)
    (h : ∀ v' w', w'.ownsRow base e size v' (n + m) (xs ++ news) → w.grownBy w' v.ownBlock → (v'.ownBlock = v.ownBlock ∨ v'.ownBlock = some w.heap.size) → wpList P ops Q rest (a.put o.dst v') w') : wpList P ops Q (o :: rest) a w :=
  wpList_plain hgd fun K hK => by
    obtain ⟨v', w', hr, h2, h3, h4⟩ := run_append_own (P := P) w base t o.type e i z size bytes ht hi hz hsize hby hzs hsz v n xs hown ad m c news hl hnews h1 h63 hbytes hbase
    have h5 := append_block (P := P) w base t o.type e i z size bytes ht hi hz hsize hby v n xs hown ad m c hm news hl hnews h1 h63 hbytes hr
    unfold Oper.wp execOp
    simp only [ho, resolve, invoke, builtin, Sem.run_bind, Sem.run_pure, Result.andThen_ok, List.map_toArray, List.map_cons, List.map_nil, hs, hx, hr]
    exact hK _ _ (h v' w' h2 h3 h5)
end


end Go.Proofs.Ytpfeekdmeloakaa.Old
