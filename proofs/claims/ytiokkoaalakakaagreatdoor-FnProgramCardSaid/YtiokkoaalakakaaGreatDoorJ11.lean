/-
  FnProgram, part 11 of 50 (Parts, Lines0, Take).
-/
import Derived.Test.YtiokkoaalakakaaGreatDoorJ10
import Derived.Deep.RegionLaw
import Derived.Laws.OwnMore
import Derived.Test.YtiokkoaalakakaaGreatDoorJ08
import Derived.WalkKit
import Derived.Laws.RangeString
import Derived.Laws.RangeAny
import Derived.Laws.Bits

/-
  A program's numbers, thread by thread; what a right program's parts are; an append to a row of the call's own as one step of a region that draws.
-/
namespace Go.Proofs.YtiokkoaalakakaaGreatDoor
open Go.RowKit

/-- The numbers of a code's instructions. -/
def rowNums (xs : List I3) : List Int := xs.flatMap fun x => [x.1, x.2.1, x.2.2]
/-- A program's numbers: of each thread its length, and its instructions' three. -/
def progNums (rows : List (List I3)) : List Int := rows.flatMap fun r => (r.length : Int) :: rowNums r

theorem rowNums_length (xs : List I3) : (rowNums xs).length = xs.length * 3 := by
  induction xs with
  | nil => rfl
  | cons x xs ih => simp [rowNums] at *; omega
theorem rowNums_step {xs : List I3} {k : Nat} (hk : k < xs.length) : rowNums (xs.take (k + 1)) = rowNums (xs.take k) ++ [(xs.getD k (0, 0, 0)).1, (xs.getD k (0, 0, 0)).2.1, (xs.getD k (0, 0, 0)).2.2] := by
  unfold rowNums
  rw [List.take_succ_eq_append_getElem hk, List.flatMap_append]
  simp [List.getD, hk]
theorem progNums_step {rows : List (List I3)} {k : Nat} (hk : k < rows.length) : progNums (rows.take (k + 1)) = (progNums (rows.take k) ++ [((rows.getD k []).length : Int)]) ++ rowNums (rows.getD k []) := by
  unfold progNums
  rw [List.take_succ_eq_append_getElem hk, List.flatMap_append]
  simp [List.getD, hk]

/-- The numbers of right programs are small, and there are not many. -/
theorem okI_small {x : I3} (h : okI x = true) : (0 ≤ x.1 ∧ x.1 ≤ 9) ∧ (0 ≤ x.2.1 ∧ x.2.1 ≤ 9) ∧ (0 ≤ x.2.2 ∧ x.2.2 ≤ 9) := by
  unfold okI at h
  rcases op_cases x with h' | h' | h' | h' | h' | h' | h' | h' | h'
  all_goals first
    | (simp [h'] at h; simp only [inB_true] at h; omega)
    | (obtain ⟨h1, h2, h3, h4, h5, h6, h7, h8⟩ := h'; simp [h1, h2, h3, h4, h5, h6, h7, h8] at h)
theorem okFrom_mem {n : Nat} : ∀ {xs : List I3} {i : Nat}, okFrom n i xs = true → ∀ x ∈ xs, okI x = true
  | [], _, _, x, hx => by cases hx
  | y :: ys, i, h, x, hx => by
    unfold okFrom at h
    simp only [Bool.and_eq_true] at h
    rcases List.mem_cons.1 hx with rfl | hx
    · exact h.1.1
    · exact okFrom_mem h.2 x hx
theorem progOk_parts {rows : List (List I3)} (h : progOk rows = true) : rows.length = 3 ∧ ∀ r ∈ rows, r.length ≤ 6 ∧ ∀ x ∈ r, okI x = true := by
  unfold progOk at h
  simp only [Bool.and_eq_true, decide_eq_true_eq, List.all_eq_true] at h
  refine ⟨h.1, fun r hr => ?_⟩
  have := h.2 r hr
  unfold codeOk at this
  simp only [Bool.and_eq_true, decide_eq_true_eq] at this
  exact ⟨this.1, okFrom_mem this.2⟩
theorem progNums_len {rows : List (List I3)} (hr : ∀ r ∈ rows, r.length ≤ 6) : (progNums rows).length ≤ rows.length * 19 := by
  induction rows with
  | nil => simp [progNums]
  | cons r rs ih =>
    have h1 := hr r (by simp)
    have h2 := ih (fun x hx => hr x (by simp [hx]))
    have h3 := rowNums_length r
    simp only [progNums, List.flatMap_cons, List.length_append, List.length_cons] at h2 ⊢
    omega

theorem step_append_mine {P : Program} {ops : Array Oper} {o : Oper} {a : Act} {w : World} {K : Act → World → Prop} {Q : Exit → Act → World → Prop} {E : Prop}
    (hg : o.guard = none) (s x : Operand) (t : TypeId) (hop : o.op = Op.call { callee := Callee.builtin Builtin.append, args := #[s, x], argTypes := #[t, t] })
    (base : Nat) (e : TypeId) (i : TypeInfo) (z : Value) (size bytes : Nat) (h1 : P.underlying t = some (.slice e)) (h2 : P.info? e = some i) (h3 : i.zero = some z) (h4 : i.size = size) (h5 : i.bytes = bytes) (h6 : z.cells.size = size) (h7 : 0 < size)
    (v : Value) (n : Nat) (olds : List Value) (hs : a.eval s = v) (hown : w.ownsRow base e size v n olds)
    (ad : Addr) (m c : Nat) (news : List Value) (hx : a.eval x = .slice (some ad) m c) (hn : news.length = m * size) (hc : ∀ j u, news[j]? = some u → w.cell? (ad.add j) = some u) (h1c : ∀ u ∈ news, u.oneCell' = true)
    (b1 : n + m ≤ maxLen) (b2 : (n + m) * bytes ≤ 140737488355328) (hbw : base ≤ w.heap.size)
    (hK : ∀ v' w', w'.ownsRow base e size v' (n + m) (olds ++ news) → w.grownBy w' v.ownBlock → K (a.put o.dst v') w') :
    if Region.wanted o (yielded ops a.tmps) = true then Oper.wp P o a w K Q else E := by
  have hw : Region.wanted o (yielded ops a.tmps) = true := by simp [Region.wanted, hg]
  rw [if_pos hw]
  obtain ⟨v', w', hrun, r1, r2, _⟩ := run_append_own (P := P) w base t o.type e i z size bytes h1 h2 h3 h4 h5 h6 h7 v n olds hown ad m c news hn hc h1c b1 b2 hbw
  subst hs
  unfold Oper.wp
  simp [execOp, hop, resolve, invoke, builtin, hx, hrun, Result.andThen]
  exact hK v' w' r1 r2
theorem three_i64 (a b c : Int) : ∀ u ∈ [Value.int .i64 a, .int .i64 b, .int .i64 c], u.oneCell' = true := by intro u hu; simp at hu; rcases hu with rfl | rfl | rfl <;> rfl
theorem one_i64'' (a : Int) : ∀ u ∈ [Value.int .i64 a], u.oneCell' = true := by intro u hu; simp at hu; subst hu; rfl
theorem cell_three_new (w : World) (x y z : Value) (t : TypeId) : ∀ j u, [x, y, z][j]? = some u → (w.alloc (.cells #[x, y, z] t)).cell? ((⟨w.heap.size, 0, none⟩ : Addr).add j) = some u := by
  intro j u hj
  match j, hj with
  | 0, hj => simp at hj; subst hj; simp [Addr.add]
  | 1, hj => simp at hj; subst hj; simp [Addr.add]
  | 2, hj => simp at hj; subst hj; simp [Addr.add]
  | (j + 3), hj => simp at hj
end Go.Proofs.YtiokkoaalakakaaGreatDoor


/-
  A right program's lines: thread by thread, the thread ahead of each instruction's text.
-/
namespace Go.Proofs.YtiokkoaalakakaaGreatDoor
open Go.RowKit

/-- An instruction's text. -/
def txtI (x : I3) : ByteArray := if x.1 = 5 ∨ x.1 = 6 then txt1 x.1.toNat x.2.1.toNat else txt2 x.1.toNat x.2.1.toNat x.2.2.toNat

theorem l02Text_is {x : I3} (h : okI x = true) (w : World) : Calls Tryz.prog 41 #[x.val] w fun e w' => e = .returned (.string (txtI x)) ∧ Below w.heap.size w w' := by
  obtain ⟨k, a, b, rfl, h0, h9, ha, hb⟩ := okI_nats h
  unfold I3.val
  by_cases hk : k = 5 ∨ k = 6
  · have e : txtI ((k : Int), (a : Int), (b : Int)) = txt1 k a := by unfold txtI; rw [if_pos (by simp only; omega)]; simp
    rw [e]
    exact l02Text_lock k a b w hk ha
  · have e : txtI ((k : Int), (a : Int), (b : Int)) = txt2 k a b := by unfold txtI; rw [if_neg (by simp only; omega)]; simp
    rw [e]
    exact l02Text_two k a b w h9 (by omega) (by omega) ha hb
theorem textOf_is {x : I3} (h : okI x = true) (w : World) (hT : OpTable w) : Calls Tryz.prog 32 #[x.val] w fun e w' => e = .returned (.string (txtI x)) ∧ Below w.heap.size w w' := by
  obtain ⟨k, a, b, rfl, h0, h9, ha, hb⟩ := okI_nats h
  unfold I3.val
  by_cases hk : k = 5 ∨ k = 6
  · have e : txtI ((k : Int), (a : Int), (b : Int)) = txt1 k a := by unfold txtI; rw [if_pos (by simp only; omega)]; simp
    rw [e]
    exact textOf_lock k a b w hT hk ha
  · have e : txtI ((k : Int), (a : Int), (b : Int)) = txt2 k a b := by unfold txtI; rw [if_neg (by simp only; omega)]; simp
    rw [e]
    exact textOf_two k a b w hT h0 h9 (by omega) (by omega) ha hb

theorem txtI_size (x : I3) : (txtI x).size ≤ 10 := by
  have h1 : ∀ k a, (txt1 k a).size ≤ 8 := fun k a => by
    have := opB_size k
    have h0 : (⟨#[32]⟩ : ByteArray).size = 1 := rfl
    have h2 := digT_size a
    unfold txt1
    rw [ByteArray.size_append, ByteArray.size_append]
    omega
  unfold txtI
  split
  · have := h1 x.1.toNat x.2.1.toNat
    omega
  · have := h1 x.1.toNat x.2.1.toNat
    have h0 : (⟨#[32]⟩ : ByteArray).size = 1 := rfl
    have h2 := digT_size x.2.2.toNat
    unfold txt2
    rw [ByteArray.size_append, ByteArray.size_append]
    omega

/-- The line of an instruction of thread k. -/
def lineOf (k : Nat) (x : I3) : ByteArray := (digT k ++ ⟨#[32]⟩) ++ txtI x
def rowLines (k : Nat) (xs : List I3) : List ByteArray := xs.map (lineOf k)
/-- The lines of the first j threads. -/
def linesTo (rows : List (List I3)) (j : Nat) : List ByteArray := (List.range j).flatMap fun k => rowLines k (rows.getD k [])

theorem linesTo_step (rows : List (List I3)) (j : Nat) : linesTo rows (j + 1) = linesTo rows j ++ rowLines j (rows.getD j []) := by
  unfold linesTo
  rw [List.range_succ, List.flatMap_append]
  simp
theorem rowLines_step {k i : Nat} {xs : List I3} (hi : i < xs.length) : rowLines k (xs.take (i + 1)) = rowLines k (xs.take i) ++ [lineOf k (xs.getD i (0, 0, 0))] := by
  unfold rowLines
  rw [List.take_succ_eq_append_getElem hi, List.map_append]
  simp [List.getD, hi]
theorem linesTo_len (rows : List (List I3)) (hr : ∀ k, (rows.getD k []).length ≤ 6) (j : Nat) : (linesTo rows j).length ≤ j * 6 := by
  induction j with
  | zero => simp [linesTo]
  | succ j ih =>
    rw [linesTo_step, List.length_append]
    have := hr j
    simp only [rowLines, List.length_map]
    omega
end Go.Proofs.YtiokkoaalakakaaGreatDoor

/-
  Plain mathematics of reading a number from bytes, no program in it: where it ends, its value, that it is the only one; what a range over runes meets.
-/
namespace Go.Proofs.YtiokkoaalakakaaGreatDoor

/-- Byte k of a text; 0 behind its end. -/
def bt (s : ByteArray) (k : Nat) : Nat := if h : k < s.size then (s[k]'h).toNat else 0
theorem bt_get (s : ByteArray) (k : Nat) (h : k < s.size) : (s[k]'h).toNat = bt s k := by unfold bt; rw [dif_pos h]
theorem bt_lt (s : ByteArray) (k : Nat) : bt s k < 256 := by
  unfold bt; split
  · exact (s[k]).toNat_lt
  · omega
theorem bt_bang (s : ByteArray) (k : Nat) (h : k < s.size) : (s.get! k).toNat = bt s k := by
  rw [← bt_get s k h]
  have e : s.get! k = s[k]'h := by
    simp [ByteArray.get!, getElem!_pos, h]
    rfl
  rw [e]

/-- The number that begins at p has k bytes, the last below 128, all others not. -/
def IsEnd (s : ByteArray) (p k : Nat) : Prop := 1 ≤ k ∧ k ≤ 5 ∧ p + k ≤ s.size ∧ (∀ i, i + 1 < k → 128 ≤ bt s (p + i)) ∧ bt s (p + k - 1) < 128
/-- No number ends within five bytes. -/
def NoEnd (s : ByteArray) (p : Nat) : Prop := ∀ i, i < 5 → p + i < s.size → 128 ≤ bt s (p + i)
/-- The first j bytes from p on are 128 or more. -/
def highTo (s : ByteArray) (p j : Nat) : Prop := ∀ i, i < j → 128 ≤ bt s (p + i)

theorem IsEnd.only {s : ByteArray} {p k j : Nat} (h : IsEnd s p k) (g : IsEnd s p j) : k = j := by
  obtain ⟨h1, h2, h3, h4, h5⟩ := h
  obtain ⟨g1, g2, g3, g4, g5⟩ := g
  rcases Nat.lt_trichotomy k j with hl | hl | hl
  · have := g4 (k - 1) (by omega)
    rw [show p + (k - 1) = p + k - 1 by omega] at this
    omega
  · exact hl
  · have := h4 (j - 1) (by omega)
    rw [show p + (j - 1) = p + j - 1 by omega] at this
    omega
theorem IsEnd.not_no {s : ByteArray} {p k : Nat} (h : IsEnd s p k) (g : NoEnd s p) : False := by
  obtain ⟨h1, h2, h3, h4, h5⟩ := h
  have := g (k - 1) (by omega) (by omega)
  rw [show p + (k - 1) = p + k - 1 by omega] at this
  omega
theorem isEnd_at {s : ByteArray} {p j : Nat} (h : highTo s p j) (hj : j < 5) (hs : p + j < s.size) (hb : bt s (p + j) < 128) : IsEnd s p (j + 1) :=
  ⟨by omega, by omega, by omega, fun i hi => h i (by omega), by simpa using hb⟩
theorem noEnd_of {s : ByteArray} {p j : Nat} (h : highTo s p j) (hj : 5 ≤ j ∨ s.size ≤ p + j) : NoEnd s p := fun i hi hs => h i (by omega)
theorem highTo_succ {s : ByteArray} {p j : Nat} (h : highTo s p j) (hb : 128 ≤ bt s (p + j)) : highTo s p (j + 1) := by
  intro i hi
  rcases Nat.lt_or_ge i j with h' | h'
  · exact h i h'
  · obtain rfl : i = j := by omega
    exact hb
theorem highTo_zero (s : ByteArray) (p : Nat) : highTo s p 0 := fun i h => absurd h (by omega)

/-- What the first k bytes from p on come to. -/
def val (s : ByteArray) (p : Nat) : Nat → Nat
  | 0 => 0
  | 1 => bt s p % 128
  | 2 => bt s p % 128 + bt s (p + 1) % 128 * 128
  | 3 => bt s p % 128 + bt s (p + 1) % 128 * 128 + bt s (p + 2) % 128 * 16384
  | 4 => bt s p % 128 + bt s (p + 1) % 128 * 128 + bt s (p + 2) % 128 * 16384 + bt s (p + 3) % 128 * 2097152
  | _ => bt s p % 128 + bt s (p + 1) % 128 * 128 + bt s (p + 2) % 128 * 16384 + bt s (p + 3) % 128 * 2097152 + bt s (p + 4) % 128 * 268435456

/-- A number of k bytes begins at p, and it is n. -/
def Num (s : ByteArray) (p n k : Nat) : Prop := IsEnd s p k ∧ ¬ (1 < k ∧ bt s (p + k - 1) = 0) ∧ n = val s p k ∧ n ≤ 999999999
theorem Num.only {s : ByteArray} {p n k m j : Nat} (h : Num s p n k) (g : Num s p m j) : n = m ∧ k = j := by
  have e := h.1.only g.1
  subst e
  exact ⟨h.2.2.1.trans g.2.2.1.symm, rfl⟩
def NoNum (s : ByteArray) (p : Nat) : Prop := ∀ n k, ¬ Num s p n k
theorem noNum_of_noEnd {s : ByteArray} {p : Nat} (h : NoEnd s p) : NoNum s p := fun _ _ hn => hn.1.not_no h
theorem noNum_zero {s : ByteArray} {p k : Nat} (h : IsEnd s p k) (hk : 1 < k) (hb : bt s (p + k - 1) = 0) : NoNum s p := by
  intro n j hn
  have e := h.only hn.1
  subst e
  exact hn.2.1 ⟨hk, hb⟩
theorem noNum_great {s : ByteArray} {p k : Nat} (h : IsEnd s p k) (hv : 999999999 < val s p k) : NoNum s p := by
  intro n j hn
  have e := h.only hn.1
  subst e
  have h1 := hn.2.2.1
  have h2 := hn.2.2.2
  omega
theorem val_lt (s : ByteArray) (p k : Nat) : val s p k < 34359738368 := by
  unfold val
  split <;> omega

/-- A text's bytes from p on are those of the text cut at p. -/
theorem bt_cut (s : ByteArray) (p i : Nat) : bt (s.extract p s.size) i = bt s (p + i) := by
  unfold bt
  by_cases h : p + i < s.size
  · have h' : i < (s.extract p s.size).size := by simp; omega
    rw [dif_pos h, dif_pos h']
    congr 1
    simp [ByteArray.getElem_extract]
  · have h' : ¬ i < (s.extract p s.size).size := by simp; omega
    rw [dif_neg h, dif_neg h']
theorem bt_head (s : ByteArray) (m i : Nat) (h : i < m) (hm : m ≤ s.size) : bt (s.extract 0 m) i = bt s i := by
  unfold bt
  have h1 : i < s.size := by omega
  have h' : i < (s.extract 0 m).size := by simp; omega
  rw [dif_pos h1, dif_pos h']
  congr 1
  simp [ByteArray.getElem_extract]
theorem isEnd_cut {s : ByteArray} {p k : Nat} (hp : p ≤ s.size) (h : IsEnd (s.extract p s.size) 0 k) : IsEnd s p k := by
  obtain ⟨h1, h2, h3, h4, h5⟩ := h
  refine ⟨h1, h2, ?_, fun i hi => ?_, ?_⟩
  · simp at h3; omega
  · have := h4 i hi
    rw [bt_cut] at this
    simpa using this
  · rw [bt_cut] at h5
    rw [show p + k - 1 = p + (0 + k - 1) by omega]
    exact h5
theorem noEnd_cut {s : ByteArray} {p : Nat} (h : NoEnd (s.extract p s.size) 0) : NoEnd s p := by
  intro i hi hs
  have := h i hi (by simp; omega)
  rw [bt_cut] at this
  simpa using this
theorem val_cut (s : ByteArray) (p k : Nat) : val (s.extract p s.size) 0 k = val s p k := by
  unfold val
  split <;> simp [bt_cut]
theorem num_cut {s : ByteArray} {p n k : Nat} (hp : p ≤ s.size) (h : Num (s.extract p s.size) 0 n k) : Num s p n k := by
  obtain ⟨h1, h2, h3, h4⟩ := h
  refine ⟨isEnd_cut hp h1, ?_, ?_, h4⟩
  · have hk := h1.1
    rw [bt_cut, show p + (0 + k - 1) = p + k - 1 by omega] at h2
    exact h2
  · rw [h3, val_cut]

/-- What a range over runes passes over in one step, where the byte is 128 or more, are bytes of 128 or more. -/
theorem decode_span (s : ByteArray) (pos : Nat) (hp : pos < s.size) (ha : 128 ≤ bt s pos) : ∀ j, j < (Utf8.decode s pos).2 → pos + j < s.size ∧ 128 ≤ bt s (pos + j) := by
  have h0 : (s.get! (pos + 0)).toNat = bt s pos := bt_bang s pos hp
  have hc : ∀ k, (decide (pos + k < s.size) && (s.get! (pos + k)).toNat / 64 == 2) = true → pos + k < s.size ∧ 128 ≤ bt s (pos + k) := by
    intro k hk
    simp only [Bool.and_eq_true, decide_eq_true_eq, beq_iff_eq] at hk
    have := bt_bang s (pos + k) hk.1
    exact ⟨hk.1, by omega⟩
  intro j hj
  have hz : j = 0 → pos + j < s.size ∧ 128 ≤ bt s (pos + j) := by rintro rfl; exact ⟨hp, ha⟩
  unfold Utf8.decode at hj
  dsimp only at hj
  rw [if_neg (by rw [h0]; omega)] at hj
  split at hj
  · rename_i h
    simp only [Bool.and_eq_true] at h
    have c1 := hc 1 (by simpa using h.2)
    split at hj
    · have : j = 0 ∨ j = 1 := by dsimp only at hj; omega
      rcases this with h | rfl
      · exact hz h
      · exact c1
    · exact hz (by dsimp only at hj; omega)
  · split at hj
    · rename_i h
      simp only [Bool.and_eq_true] at h
      have c1 := hc 1 (by simpa using h.1.2)
      have c2 := hc 2 (by simpa using h.2)
      split at hj
      · have : j = 0 ∨ j = 1 ∨ j = 2 := by dsimp only at hj; omega
        rcases this with h | rfl | rfl
        · exact hz h
        · exact c1
        · exact c2
      · exact hz (by dsimp only at hj; omega)
    · split at hj
      · rename_i h
        simp only [Bool.and_eq_true] at h
        have c1 := hc 1 (by simpa using h.1.1.2)
        have c2 := hc 2 (by simpa using h.1.2)
        have c3 := hc 3 (by simpa using h.2)
        split at hj
        · have : j = 0 ∨ j = 1 ∨ j = 2 ∨ j = 3 := by dsimp only at hj; omega
          rcases this with h | rfl | rfl | rfl
          · exact hz h
          · exact c1
          · exact c2
          · exact c3
        · exact hz (by dsimp only at hj; omega)
      · exact hz (by dsimp only at hj; omega)

/-- The bytes from the last to the first, as they are gathered: j of them. -/
def hv (s : ByteArray) (p k : Nat) : Nat → Nat
  | 0 => 0
  | j + 1 => hv s p k j * 128 + bt s (p + k - 1 - j) % 128
theorem hv_lt (s : ByteArray) (p k : Nat) : ∀ j, j ≤ 4 → hv s p k j < 268435456
  | 0, _ => by simp [hv]
  | 1, _ => by simp only [hv]; omega
  | 2, _ => by simp only [hv]; omega
  | 3, _ => by simp only [hv]; omega
  | 4, _ => by simp only [hv]; omega
  | j + 5, h => by omega
theorem hv_val (s : ByteArray) (p k : Nat) (h1 : 1 ≤ k) (h5 : k ≤ 5) : hv s p k k = val s p k := by
  have hc : k = 1 ∨ k = 2 ∨ k = 3 ∨ k = 4 ∨ k = 5 := by omega
  rcases hc with rfl | rfl | rfl | rfl | rfl
  all_goals
    simp only [hv, val, Nat.add_sub_cancel, Nat.sub_zero, show p + 2 - 1 - 0 = p + 1 by omega, show p + 2 - 1 - 1 = p by omega, show p + 3 - 1 - 0 = p + 2 by omega, show p + 3 - 1 - 1 = p + 1 by omega, show p + 3 - 1 - 2 = p by omega, show p + 4 - 1 - 0 = p + 3 by omega, show p + 4 - 1 - 1 = p + 2 by omega, show p + 4 - 1 - 2 = p + 1 by omega, show p + 4 - 1 - 3 = p by omega, show p + 5 - 1 - 0 = p + 4 by omega, show p + 5 - 1 - 1 = p + 3 by omega, show p + 5 - 1 - 2 = p + 2 by omega, show p + 5 - 1 - 3 = p + 1 by omega, show p + 5 - 1 - 4 = p by omega]
    omega
theorem and127 (b : Nat) (h : b < 256) : bits BinOp.and IntKind.u8 (b : Int) 127 = (b : Int) % 128 := by
  have : ∀ b : Fin 256, bits BinOp.and IntKind.u8 ((b.val : Nat) : Int) 127 = ((b.val : Nat) : Int) % 128 := by decide +kernel
  exact this ⟨b, h⟩
end Go.Proofs.YtiokkoaalakakaaGreatDoor
