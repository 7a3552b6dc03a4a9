
/-
  A program's numbers, thread by thread; what a right program's parts are; an append to a row of the call's own as one step of a region that draws.
-/
import Derived.Test.YtleiogcohkfgkaaCodeI
import Derived.Deep.RegionLaw
import Derived.Laws.OwnMore
namespace Go.Proofs.Ytleiogcohkfgkaa
open Go.RowKit

/-- The numbers of a code's instructions. -/
def rowNums (xs : List I3) : List Int := xs.flatMap fun x => [x.1, x.2.1, x.2.2]
/-- A program's numbers: of each thread its length, and its instructions' three. -/
def progNums (rows : List (List I3)) : List Int := rows.flatMap fun r => (r.length : Int) :: rowNums r

theorem rowNums_length (xs : List I3) : (rowNums xs).length = xs.length * 3 := by
  induction xs with
  | nil => rfl
  | cons x xs ih => simp [rowNums] at *; omega
theorem rowNums_step {xs : List I3} {k : Nat} (hk : k < xs.length) : rowNums (xs.take (k + 1)) = rowNums (xs.take k) ++ [(xs.getD k (0, 0, 0)).1, (xs.getD k (0, 0, 0)).2.1, (xs.getD k (0, 0, 0)).2.2] := by
  unfold rowNums
  rw [List.take_succ_eq_append_getElem hk, List.flatMap_append]
  simp [List.getD, hk]
theorem progNums_step {rows : List (List I3)} {k : Nat} (hk : k < rows.length) : progNums (rows.take (k + 1)) = (progNums (rows.take k) ++ [((rows.getD k []).length : Int)]) ++ rowNums (rows.getD k []) := by
  unfold progNums
  rw [List.take_succ_eq_append_getElem hk, List.flatMap_append]
  simp [List.getD, hk]

/-- The numbers of right programs are small, and there are not many. -/
theorem okI_small {x : I3} (h : okI x = true) : (0 ≤ x.1 ∧ x.1 ≤ 9) ∧ (0 ≤ x.2.1 ∧ x.2.1 ≤ 9) ∧ (0 ≤ x.2.2 ∧ x.2.2 ≤ 9) := by
  unfold okI at h
  rcases op_cases x with h' | h' | h' | h' | h' | h' | h' | h' | h'
  all_goals first
    | (simp [h'] at h; simp only [inB_true] at h; omega)
    | (obtain ⟨h1, h2, h3, h4, h5, h6, h7, h8⟩ := h'; simp [h1, h2, h3, h4, h5, h6, h7, h8] at h)
theorem okFrom_mem {n : Nat} : ∀ {xs : List I3} {i : Nat}, okFrom n i xs = true → ∀ x ∈ xs, okI x = true
  | [], _, _, x, hx => by cases hx
  | y :: ys, i, h, x, hx => by
    unfold okFrom at h
    simp only [Bool.and_eq_true] at h
    rcases List.mem_cons.1 hx with rfl | hx
    · exact h.1.1
    · exact okFrom_mem h.2 x hx
theorem progOk_parts {rows : List (List I3)} (h : progOk rows = true) : rows.length = 3 ∧ ∀ r ∈ rows, r.length ≤ 6 ∧ ∀ x ∈ r, okI x = true := by
  unfold progOk at h
  simp only [Bool.and_eq_true, decide_eq_true_eq, List.all_eq_true] at h
  refine ⟨h.1, fun r hr => ?_⟩
  have := h.2 r hr
  unfold codeOk at this
  simp only [Bool.and_eq_true, decide_eq_true_eq] at this
  exact ⟨this.1, okFrom_mem this.2⟩
theorem progNums_len {rows : List (List I3)} (hr : ∀ r ∈ rows, r.length ≤ 6) : (progNums rows).length ≤ rows.length * 19 := by
  induction rows with
  | nil => simp [progNums]
  | cons r rs ih =>
    have h1 := hr r (by simp)
    have h2 := ih (fun x hx => hr x (by simp [hx]))
    have h3 := rowNums_length r
    simp only [progNums, List.flatMap_cons, List.length_append, List.length_cons] at h2 ⊢
    omega

theorem step_append_mine {P : Program} {ops : Array Oper} {o : Oper} {a : Act} {w : World} {K : Act → World → Prop} {Q : Exit → Act → World → Prop} {E : Prop}
    (hg : o.guard = none) (s x : Operand) (t : TypeId) (hop : o.op = Op.call { callee := Callee.builtin Builtin.append, args := #[s, x], argTypes := #[t, t] })
    (base : Nat) (e : TypeId) (i : TypeInfo) (z : Value) (size bytes : Nat) (h1 : P.underlying t = some (.slice e)) (h2 : P.info? e = some i) (h3 : i.zero = some z) (h4 : i.size = size) (h5 : i.bytes = bytes) (h6 : z.cells.size = size) (h7 : 0 < size)
    (v : Value) (n : Nat) (olds : List Value) (hs : a.eval s = v) (hown : w.ownsRow base e size v n olds)
    (ad : Addr) (m c : Nat) (news : List Value) (hx : a.eval x = .slice (some ad) m c) (hn : news.length = m * size) (hc : ∀ j u, news[j]? = some u → w.cell? (ad.add j) = some u) (h1c : ∀ u ∈ news, u.oneCell' = true)
    (b1 : n + m ≤ maxLen) (b2 : (n + m) * bytes ≤ 140737488355328) (hbw : base ≤ w.heap.size)
    (hK : ∀ v' w', w'.ownsRow base e size v' (n + m) (olds ++ news) → w.grownBy w' v.ownBlock → K (a.put o.dst v') w') :
    if Region.wanted o (yielded ops a.tmps) = true then Oper.wp P o a w K Q else E := by
  have hw : Region.wanted o (yielded ops a.tmps) = true := by simp [Region.wanted, hg]
  rw [if_pos hw]
  obtain ⟨v', w', hrun, r1, r2, _⟩ := run_append_own (P := P) w base t o.type e i z size bytes h1 h2 h3 h4 h5 h6 h7 v n olds hown ad m c news hn hc h1c b1 b2 hbw
  subst hs
  unfold Oper.wp
  simp [execOp, hop, resolve, invoke, builtin, hx, hrun, Result.andThen]
  exact hK v' w' r1 r2
theorem three_i64 (a b c : Int) : ∀ u ∈ [Value.int .i64 a, .int .i64 b, .int .i64 c], u.oneCell' = true := by intro u hu; simp at hu; rcases hu with rfl | rfl | rfl <;> rfl
theorem one_i64'' (a : Int) : ∀ u ∈ [Value.int .i64 a], u.oneCell' = true := by intro u hu; simp at hu; subst hu; rfl
theorem cell_three_new (w : World) (x y z : Value) (t : TypeId) : ∀ j u, [x, y, z][j]? = some u → (w.alloc (.cells #[x, y, z] t)).cell? ((⟨w.heap.size, 0, none⟩ : Addr).add j) = some u := by
  intro j u hj
  match j, hj with
  | 0, hj => simp at hj; subst hj; simp [Addr.add]
  | 1, hj => simp at hj; subst hj; simp [Addr.add]
  | 2, hj => simp at hj; subst hj; simp [Addr.add]
  | (j + 3), hj => simp at hj
end Go.Proofs.Ytleiogcohkfgkaa
