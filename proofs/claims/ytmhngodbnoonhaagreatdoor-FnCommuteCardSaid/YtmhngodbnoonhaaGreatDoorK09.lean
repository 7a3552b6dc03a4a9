/-
  Joined: Vm3, Plain, Conv, Parts, Vm4.
-/
import Derived.Test.YtmhngodbnoonhaaGreatDoorK03
import Derived.Test.YtmhngodbnoonhaaGreatDoorK08
import Derived.WalkKit
import Derived.Laws.BytesArg
import Derived.Test.YtmhngodbnoonhaaGreatDoorProg
import Derived.WalkSpells
import Derived.WalkLawsBesides
import Derived.Test.YtmhngodbnoonhaaGreatDoorK06
import Derived.Deep.RegionLaw
import Derived.Laws.OwnMore

/-
  The specification's VmOK: l03All, l03Shape, and a program that is right.
-/
namespace Go.Proofs.YtmhngodbnoonhaaGreatDoor
open Go.RowKit

/-- n numbers, each from 0 to high. -/
def allIn (zs : List Int) (n high : Int) : Bool := zs.all (fun z => decide (0 ≤ z ∧ z ≤ high)) && decide ((zs.length : Int) = n)
/-- A state that has its shape. -/
def shapeOk (m : V4) : Bool := allIn m.1 3 6 && (allIn m.2.1 4 9 && (allIn m.2.2.1 2 3 && allIn m.2.2.2 6 9))
theorem allIn_no {zs : List Int} {n high : Int} {k : Nat} (hk : k < zs.length) (h : ¬ (0 ≤ zs.getD k 0 ∧ zs.getD k 0 ≤ high)) : allIn zs n high = false := by
  unfold allIn
  have : zs.all (fun z => decide (0 ≤ z ∧ z ≤ high)) = false := by
    rw [List.all_eq_false]
    refine ⟨zs.getD k 0, by simp [List.getD, hk], ?_⟩
    simpa using h
  rw [this]; rfl
theorem allIn_end {zs : List Int} {n high : Int} (h : ∀ i, i < zs.length → 0 ≤ zs.getD i 0 ∧ zs.getD i 0 ≤ high) : allIn zs n high = decide ((zs.length : Int) = n) := by
  unfold allIn
  have : zs.all (fun z => decide (0 ≤ z ∧ z ≤ high)) = true := by
    rw [List.all_eq_true]
    intro z hz
    obtain ⟨i, hi, rfl⟩ := List.getElem_of_mem hz
    have := h i hi
    simpa [List.getD, hi] using this
  rw [this]; rfl

end Go.Proofs.YtmhngodbnoonhaaGreatDoor


/-
  Plain mathematics of the bytes of numbers, no program in it: the bytes of a number, seven bits a byte.
-/
namespace Go.Proofs.YtmhngodbnoonhaaGreatDoor

/-- The bytes of a number below 2 to the 35, the lowest first. -/
def pack (n : Nat) : List Int :=
  if n < 128 then [(n : Int)]
  else if n < 16384 then [(n : Int) % 128 + 128, (n : Int) / 128]
  else if n < 2097152 then [(n : Int) % 128 + 128, (n : Int) / 128 % 128 + 128, (n : Int) / 16384]
  else if n < 268435456 then [(n : Int) % 128 + 128, (n : Int) / 128 % 128 + 128, (n : Int) / 16384 % 128 + 128, (n : Int) / 2097152]
  else [(n : Int) % 128 + 128, (n : Int) / 128 % 128 + 128, (n : Int) / 16384 % 128 + 128, (n : Int) / 2097152 % 128 + 128, (n : Int) / 268435456]

theorem pack_small {n : Nat} (h : n < 128) : pack n = [(n : Int)] := by unfold pack; rw [if_pos h]
theorem pack2 {n : Nat} (h : 128 ≤ n) (k : n < 16384) : pack n = [(n : Int) % 128 + 128, (n : Int) / 128] := by
  unfold pack; rw [if_neg (by omega), if_pos k]
theorem pack3 {n : Nat} (h : 16384 ≤ n) (k : n < 2097152) : pack n = [(n : Int) % 128 + 128, (n : Int) / 128 % 128 + 128, (n : Int) / 16384] := by
  unfold pack; rw [if_neg (by omega), if_neg (by omega), if_pos k]
theorem pack4 {n : Nat} (h : 2097152 ≤ n) (k : n < 268435456) : pack n = [(n : Int) % 128 + 128, (n : Int) / 128 % 128 + 128, (n : Int) / 16384 % 128 + 128, (n : Int) / 2097152] := by
  unfold pack; rw [if_neg (by omega), if_neg (by omega), if_neg (by omega), if_pos k]
theorem pack5 {n : Nat} (h : 268435456 ≤ n) : pack n = [(n : Int) % 128 + 128, (n : Int) / 128 % 128 + 128, (n : Int) / 16384 % 128 + 128, (n : Int) / 2097152 % 128 + 128, (n : Int) / 268435456] := by
  unfold pack; rw [if_neg (by omega), if_neg (by omega), if_neg (by omega), if_neg (by omega)]
theorem pack_step {n : Nat} (h : 128 ≤ n) (h2 : n < 34359738368) : pack n = ((n : Int) % 128 + 128) :: pack (n / 128) := by
  have hc : ((n / 128 : Nat) : Int) = (n : Int) / 128 := by omega
  by_cases h3 : n < 16384
  · rw [pack2 h h3, pack_small (by omega), hc]
  by_cases h4 : n < 2097152
  · rw [pack3 (by omega) h4, pack2 (by omega) (by omega), hc]
    simp only [List.cons.injEq, true_and, and_true]
    omega
  by_cases h5 : n < 268435456
  · rw [pack4 (by omega) h5, pack3 (by omega) (by omega), hc]
    simp only [List.cons.injEq, true_and, and_true]
    omega
  rw [pack5 (by omega), pack4 (by omega) (by omega), hc]
  simp only [List.cons.injEq, true_and, and_true]
  omega
theorem pack_len (n : Nat) : 1 ≤ (pack n).length ∧ (pack n).length ≤ 5 := by
  unfold pack
  repeat' split
  all_goals simp
theorem pack_byte (n : Nat) (h2 : n < 34359738368) : ∀ x ∈ pack n, 0 ≤ x ∧ x ≤ 255 := by
  unfold pack
  repeat' split
  all_goals (intro x hx; simp at hx; omega)

theorem str_append (xs ys : List Int) : strOfNums (xs ++ ys) = strOfNums xs ++ strOfNums ys := by
  apply ByteArray.ext
  simp [strOfNums]
theorem str_nil : strOfNums [] = ByteArray.empty := rfl
end Go.Proofs.YtmhngodbnoonhaaGreatDoor


/-
  string of a row of bytes of the call's own.
-/
namespace Go.Proofs.YtmhngodbnoonhaaGreatDoor
open Go.RowKit

theorem info_u8 : (Tryz.prog.info? 5).map (fun i => (i.zero, i.size, i.bytes)) = some (some (.int .u8 0), 1, 1) := by kernel_rfl
abbrev u8s (xs : List Int) : List Value := xs.map (Value.int .u8)

/-- 'string(b)' of a row of bytes that the call itself made. -/
theorem conv_owned {w : World} {base n : Nat} {v : Value} {xs : List Int} (h : w.ownsRow base 5 1 v n (u8s xs)) :
    (convert 22 9 v).run Tryz.prog w = .ok (.string (strOfNums xs)) w := by
  obtain ⟨hl, h2⟩ := h
  simp at hl
  rcases h2 with ⟨rfl, rfl⟩ | ⟨g, cap, cur, rfl, hg, hh, hn, hc, hs, ht⟩
  · have : xs = [] := by simpa using hl
    subst this
    exact run_convert_bytes_nil w 22 5 Tryz.underlying22 Tryz.underlying5 0 0 9 Tryz.underlying9
  · refine run_convert_bytes_arg w 22 5 Tryz.underlying22 Tryz.underlying5 g 0 n cap xs hl (fun i hi => ?_) 9 Tryz.underlying9
    have hown : w.ownsRow base 5 1 (.slice (some ⟨g, 0, none⟩) n cap) n (u8s xs) := ⟨by simpa using hl, .inr ⟨g, cap, cur, rfl, hg, hh, hn, hc, hs, ht⟩⟩
    have := hown.cellAt i (by omega)
    rw [Nat.zero_add, this]
    simp [List.getElem?_eq_getElem (show i < xs.length by omega)]

theorem one_u8 (n : Int) : ∀ u ∈ [Value.int .u8 n], u.oneCell' = true := by intro u hu; simp at hu; subst hu; rfl
end Go.Proofs.YtmhngodbnoonhaaGreatDoor


/-
  A program's numbers, thread by thread; what a right program's parts are; an append to a row of the call's own as one step of a region that draws.
-/
namespace Go.Proofs.YtmhngodbnoonhaaGreatDoor
open Go.RowKit

/-- The numbers of a code's instructions. -/
def rowNums (xs : List I3) : List Int := xs.flatMap fun x => [x.1, x.2.1, x.2.2]
/-- A program's numbers: of each thread its length, and its instructions' three. -/
def progNums (rows : List (List I3)) : List Int := rows.flatMap fun r => (r.length : Int) :: rowNums r

theorem rowNums_length (xs : List I3) : (rowNums xs).length = xs.length * 3 := by
  induction xs with
  | nil => rfl
  | cons x xs ih => simp [rowNums] at *; omega
theorem rowNums_step {xs : List I3} {k : Nat} (hk : k < xs.length) : rowNums (xs.take (k + 1)) = rowNums (xs.take k) ++ [(xs.getD k (0, 0, 0)).1, (xs.getD k (0, 0, 0)).2.1, (xs.getD k (0, 0, 0)).2.2] := by
  unfold rowNums
  rw [List.take_succ_eq_append_getElem hk, List.flatMap_append]
  simp [List.getD, hk]
theorem progNums_step {rows : List (List I3)} {k : Nat} (hk : k < rows.length) : progNums (rows.take (k + 1)) = (progNums (rows.take k) ++ [((rows.getD k []).length : Int)]) ++ rowNums (rows.getD k []) := by
  unfold progNums
  rw [List.take_succ_eq_append_getElem hk, List.flatMap_append]
  simp [List.getD, hk]

/-- The numbers of right programs are small, and there are not many. -/
theorem okI_small {x : I3} (h : okI x = true) : (0 ≤ x.1 ∧ x.1 ≤ 9) ∧ (0 ≤ x.2.1 ∧ x.2.1 ≤ 9) ∧ (0 ≤ x.2.2 ∧ x.2.2 ≤ 9) := by
  unfold okI at h
  rcases op_cases x with h' | h' | h' | h' | h' | h' | h' | h' | h'
  all_goals first
    | (simp [h'] at h; simp only [inB_true] at h; omega)
    | (obtain ⟨h1, h2, h3, h4, h5, h6, h7, h8⟩ := h'; simp [h1, h2, h3, h4, h5, h6, h7, h8] at h)
theorem okFrom_mem {n : Nat} : ∀ {xs : List I3} {i : Nat}, okFrom n i xs = true → ∀ x ∈ xs, okI x = true
  | [], _, _, x, hx => by cases hx
  | y :: ys, i, h, x, hx => by
    unfold okFrom at h
    simp only [Bool.and_eq_true] at h
    rcases List.mem_cons.1 hx with rfl | hx
    · exact h.1.1
    · exact okFrom_mem h.2 x hx
theorem progOk_parts {rows : List (List I3)} (h : progOk rows = true) : rows.length = 3 ∧ ∀ r ∈ rows, r.length ≤ 6 ∧ ∀ x ∈ r, okI x = true := by
  unfold progOk at h
  simp only [Bool.and_eq_true, decide_eq_true_eq, List.all_eq_true] at h
  refine ⟨h.1, fun r hr => ?_⟩
  have := h.2 r hr
  unfold codeOk at this
  simp only [Bool.and_eq_true, decide_eq_true_eq] at this
  exact ⟨this.1, okFrom_mem this.2⟩
theorem progNums_len {rows : List (List I3)} (hr : ∀ r ∈ rows, r.length ≤ 6) : (progNums rows).length ≤ rows.length * 19 := by
  induction rows with
  | nil => simp [progNums]
  | cons r rs ih =>
    have h1 := hr r (by simp)
    have h2 := ih (fun x hx => hr x (by simp [hx]))
    have h3 := rowNums_length r
    simp only [progNums, List.flatMap_cons, List.length_append, List.length_cons] at h2 ⊢
    omega

theorem step_append_mine {P : Program} {ops : Array Oper} {o : Oper} {a : Act} {w : World} {K : Act → World → Prop} {Q : Exit → Act → World → Prop} {E : Prop}
    (hg : o.guard = none) (s x : Operand) (t : TypeId) (hop : o.op = Op.call { callee := Callee.builtin Builtin.append, args := #[s, x], argTypes := #[t, t] })
    (base : Nat) (e : TypeId) (i : TypeInfo) (z : Value) (size bytes : Nat) (h1 : P.underlying t = some (.slice e)) (h2 : P.info? e = some i) (h3 : i.zero = some z) (h4 : i.size = size) (h5 : i.bytes = bytes) (h6 : z.cells.size = size) (h7 : 0 < size)
    (v : Value) (n : Nat) (olds : List Value) (hs : a.eval s = v) (hown : w.ownsRow base e size v n olds)
    (ad : Addr) (m c : Nat) (news : List Value) (hx : a.eval x = .slice (some ad) m c) (hn : news.length = m * size) (hc : ∀ j u, news[j]? = some u → w.cell? (ad.add j) = some u) (h1c : ∀ u ∈ news, u.oneCell' = true)
    (b1 : n + m ≤ maxLen) (b2 : (n + m) * bytes ≤ 140737488355328) (hbw : base ≤ w.heap.size)
    (hK : ∀ v' w', w'.ownsRow base e size v' (n + m) (olds ++ news) → w.grownBy w' v.ownBlock → K (a.put o.dst v') w') :
    if Region.wanted o (yielded ops a.tmps) = true then Oper.wp P o a w K Q else E := by
  have hw : Region.wanted o (yielded ops a.tmps) = true := by simp [Region.wanted, hg]
  rw [if_pos hw]
  obtain ⟨v', w', hrun, r1, r2, _⟩ := run_append_own (P := P) w base t o.type e i z size bytes h1 h2 h3 h4 h5 h6 h7 v n olds hown ad m c news hn hc h1c b1 b2 hbw
  subst hs
  unfold Oper.wp
  simp [execOp, hop, resolve, invoke, builtin, hx, hrun, Result.andThen]
  exact hK v' w' r1 r2
theorem three_i64 (a b c : Int) : ∀ u ∈ [Value.int .i64 a, .int .i64 b, .int .i64 c], u.oneCell' = true := by intro u hu; simp at hu; rcases hu with rfl | rfl | rfl <;> rfl
theorem one_i64'' (a : Int) : ∀ u ∈ [Value.int .i64 a], u.oneCell' = true := by intro u hu; simp at hu; subst hu; rfl
theorem cell_three_new (w : World) (x y z : Value) (t : TypeId) : ∀ j u, [x, y, z][j]? = some u → (w.alloc (.cells #[x, y, z] t)).cell? ((⟨w.heap.size, 0, none⟩ : Addr).add j) = some u := by
  intro j u hj
  match j, hj with
  | 0, hj => simp at hj; subst hj; simp [Addr.add]
  | 1, hj => simp at hj; subst hj; simp [Addr.add]
  | 2, hj => simp at hj; subst hj; simp [Addr.add]
  | (j + 3), hj => simp at hj
end Go.Proofs.YtmhngodbnoonhaaGreatDoor


/-
  The specification's key of a state that has its shape: a digit of each number.
-/
namespace Go.Proofs.YtmhngodbnoonhaaGreatDoor
open Go.RowKit

/-- All numbers of a state; its key. -/
def allOf (m : V4) : List Int := ((m.1 ++ m.2.1) ++ m.2.2.1) ++ m.2.2.2
def keyT (m : V4) : ByteArray := strOfNums ((allOf m).map fun z => 48 + z)
theorem allIn_parts {zs : List Int} {n high : Int} (h : allIn zs n high = true) : (zs.length : Int) = n ∧ ∀ z ∈ zs, 0 ≤ z ∧ z ≤ high := by
  unfold allIn at h
  simp at h
  exact ⟨h.2, h.1⟩
theorem shape_parts {m : V4} (h : shapeOk m = true) : m.1.length = 3 ∧ m.2.1.length = 4 ∧ m.2.2.1.length = 2 ∧ m.2.2.2.length = 6 ∧ ∀ z ∈ allOf m, 0 ≤ z ∧ z ≤ 9 := by
  unfold shapeOk at h
  simp only [Bool.and_eq_true] at h
  obtain ⟨h0, h1, h2, h3⟩ := h
  obtain ⟨l0, e0⟩ := allIn_parts h0
  obtain ⟨l1, e1⟩ := allIn_parts h1
  obtain ⟨l2, e2⟩ := allIn_parts h2
  obtain ⟨l3, e3⟩ := allIn_parts h3
  refine ⟨by omega, by omega, by omega, by omega, fun z hz => ?_⟩
  unfold allOf at hz
  simp only [List.mem_append] at hz
  rcases hz with ((hz | hz) | hz) | hz
  · have := e0 z hz; omega
  · exact e1 z hz
  · have := e2 z hz; omega
  · exact e3 z hz
theorem ints_news {w : World} {b off n c : Nat} {zs : List Int} (h : Ints .i64 w (some ⟨b, off, none⟩) n c zs) : ∀ j u, (zs.map (Value.int .i64))[j]? = some u → w.cell? ((⟨b, off, none⟩ : Addr).add j) = some u := by
  obtain ⟨hl, _, _, h0⟩ := h
  intro j u hj
  have hjl : j < zs.length := by
    rcases Nat.lt_or_ge j zs.length with h | h
    · exact h
    · simp [List.getElem?_eq_none h] at hj
  rcases h0 with h0 | ⟨b', off', ha, _, hc⟩
  · omega
  · cases ha
    have e : (⟨b, off, none⟩ : Addr).add j = ⟨b, off + j, none⟩ := by unfold Addr.add; split <;> simp_all
    rw [e, hc j (by omega)]
    simp [hjl] at hj
    simp [List.getD, hjl, hj]
theorem one_i64s (zs : List Int) : ∀ u ∈ zs.map (Value.int .i64), u.oneCell' = true := by intro u hu; obtain ⟨z, _, rfl⟩ := List.mem_map.1 hu; rfl
theorem own_empty (w : World) (t s B : Nat) (hB : B ≤ w.heap.size) : (w.alloc (.cells #[] t)).ownsRow B t s (.slice (some ⟨w.heap.size, 0, none⟩) 0 0) 0 [] := World.ownsRow_lit w #[] 0 hB (by unfold maxLen; omega) (by simp)
theorem some_of_ints {w : World} {a : Option Addr} {n c k : Nat} {zs : List Int} (h : Ints .i64 w a n c zs) (hl : zs.length = k) (hk : 0 < k) : n = k ∧ ∃ b off, a = some ⟨b, off, none⟩ := by
  have hn : n = k := h.1.symm.trans hl
  rcases h.2.2.2 with h0 | ⟨b, off, ha, _⟩
  · omega
  · exact ⟨hn, b, off, ha⟩

end Go.Proofs.YtmhngodbnoonhaaGreatDoor
