/-
  Joined: Digits, TextS, Tells, TextI, Take, NumP, ReadP.
-/
import Derived.Test.YtmhngodbnoonhaaDoorK05
import Derived.Test.YtmhngodbnoonhaaDoorK07
import Derived.Laws.OwnMore
import Derived.Test.YtmhngodbnoonhaaDoorK04
import Derived.BigQuiet
import Derived.Deep.QuietTactic
import Derived.Deep.RegionHeld3
import Derived.Test.YtmhngodbnoonhaaDoorK03
import Derived.WalkKit
import Derived.Laws.RangeString
import Derived.Laws.RangeAny
import Derived.Laws.Bits
import Derived.Laws.BytesArg

/-
  One digit's text: the program's strconv.Itoa and the specification's l00Digits at 0 to 9.
-/
namespace Go.Proofs.YtmhngodbnoonhaaDoor
open Go.RowKit

/-- A digit's text. -/
def digT (n : Nat) : ByteArray := strOfNums [48 + (n : Int)]

end Go.Proofs.YtmhngodbnoonhaaDoor


/-
  spec.l02Text: an instruction's text.
-/
namespace Go.Proofs.YtmhngodbnoonhaaDoor
open Go.RowKit

def opWL : List (List UInt8) := [[], [108, 111, 97, 100], [115, 116, 111, 114, 101], [115, 101, 116], [97, 100, 100], [108, 111, 99, 107], [117, 110, 108, 111, 99, 107], [106, 117, 109, 112], [97, 115, 115, 101, 114, 116]]
/-- An instruction's word. -/
def opB (k : Nat) : ByteArray := ⟨(opWL.getD k []).toArray⟩

theorem bel_drewN' (w : World) (n : Nat) : Below w.heap.size w (w.drewN n) := ⟨rfl, rfl, rfl, Nat.le_refl _, fun _ _ => rfl⟩

theorem opB_size (k : Nat) : (opB k).size ≤ 6 := by
  match k with
  | 0 => decide
  | 1 => decide
  | 2 => decide
  | 3 => decide
  | 4 => decide
  | 5 => decide
  | 6 => decide
  | 7 => decide
  | 8 => decide
  | (k + 9) =>
    have : opWL.getD (k + 9) [] = [] := by simp [opWL]
    unfold opB
    rw [this]
    decide
theorem digT_size (a : Nat) : (digT a).size = 1 := rfl

/-- The text of an instruction that tells one number. -/
def txt1 (k a : Nat) : ByteArray := (opB k ++ ⟨#[32]⟩) ++ digT a

/-- .. that tells two. -/
def txt2 (k a b : Nat) : ByteArray := (txt1 k a ++ ⟨#[32]⟩) ++ digT b

end Go.Proofs.YtmhngodbnoonhaaDoor


/-
  tellsB: which instructions tell a second number.
-/
namespace Go.Proofs.YtmhngodbnoonhaaDoor
open Go.RowKit


theorem tb_shared (v : Value) (w : World) : (Instr.typeAssert (.iface 190 v) 174 193 true).run Tryd.prog w = .ok (.tuple #[.int .i64 0, .bool false]) w := by kernel_rfl
theorem tb_register (v : Value) (w : World) : (Instr.typeAssert (.iface 189 v) 174 193 true).run Tryd.prog w = .ok (.tuple #[.int .i64 0, .bool false]) w := by kernel_rfl
theorem tb_value (v : Value) (w : World) : (Instr.typeAssert (.iface 191 v) 174 193 true).run Tryd.prog w = .ok (.tuple #[.int .i64 0, .bool false]) w := by kernel_rfl
theorem tb_target (v : Value) (w : World) : (Instr.typeAssert (.iface 177 v) 174 193 true).run Tryd.prog w = .ok (.tuple #[.int .i64 0, .bool false]) w := by kernel_rfl
theorem tb_no (v : Value) (w : World) : (Instr.typeAssert (.iface 193 v) 174 193 true).run Tryd.prog w = .ok (.tuple #[v, .bool true]) w := by kernel_rfl
theorem tb_nil (w : World) : (Instr.typeAssert .nilIface 174 193 true).run Tryd.prog w = .ok (.tuple #[.int .i64 0, .bool false]) w := by kernel_rfl


end Go.Proofs.YtmhngodbnoonhaaDoor


/-
  impl.textOfInstr, InstrText on both sides.
-/
namespace Go.Proofs.YtmhngodbnoonhaaDoor
open Go.RowKit

/-- The program's table of words is there, as its text lays it. -/
def opCells : List Value := opWL.map fun l => Value.string ⟨l.toArray⟩
theorem opCells_at (n : Nat) (hn : n < 9) : opCells[n]? = some (.string (opB n)) := by
  have hl : n < opWL.length := hn
  simp [opCells, opB, List.getElem?_eq_getElem hl]
theorem okI_nats {x : I3} (h : okI x = true) : ∃ k a b : Nat, x = ((k : Int), (a : Int), (b : Int)) ∧ k ≠ 0 ∧ k < 9 ∧ a < 10 ∧ b < 10 := by
  have hs : (1 ≤ x.1 ∧ x.1 ≤ 8) ∧ (0 ≤ x.2.1 ∧ x.2.1 ≤ 9) ∧ (0 ≤ x.2.2 ∧ x.2.2 ≤ 9) := by
    unfold okI at h
    rcases op_cases x with h' | h' | h' | h' | h' | h' | h' | h' | h'
    all_goals first
      | (simp [h'] at h; simp only [inB_true] at h; omega)
      | (obtain ⟨h1, h2, h3, h4, h5, h6, h7, h8⟩ := h'; simp [h1, h2, h3, h4, h5, h6, h7, h8] at h)
  obtain ⟨c, a, b⟩ := x
  simp only [] at hs
  refine ⟨c.toNat, a.toNat, b.toNat, ?_, by omega, by omega, by omega, by omega⟩
  rw [Int.toNat_of_nonneg (by omega), Int.toNat_of_nonneg (by omega), Int.toNat_of_nonneg (by omega)]

end Go.Proofs.YtmhngodbnoonhaaDoor


/-
  Plain mathematics of reading a number from bytes, no program in it: where it ends, its value, that it is the only one; what a range over runes meets.
-/
namespace Go.Proofs.YtmhngodbnoonhaaDoor

/-- Byte k of a text; 0 behind its end. -/
def bt (s : ByteArray) (k : Nat) : Nat := if h : k < s.size then (s[k]'h).toNat else 0
theorem bt_get (s : ByteArray) (k : Nat) (h : k < s.size) : (s[k]'h).toNat = bt s k := by unfold bt; rw [dif_pos h]
theorem bt_lt (s : ByteArray) (k : Nat) : bt s k < 256 := by
  unfold bt; split
  · exact (s[k]).toNat_lt
  · omega
theorem bt_bang (s : ByteArray) (k : Nat) (h : k < s.size) : (s.get! k).toNat = bt s k := by
  rw [← bt_get s k h]
  have e : s.get! k = s[k]'h := by
    simp [ByteArray.get!, getElem!_pos, h]
    rfl
  rw [e]

/-- The number that begins at p has k bytes, the last below 128, all others not. -/
def IsEnd (s : ByteArray) (p k : Nat) : Prop := 1 ≤ k ∧ k ≤ 5 ∧ p + k ≤ s.size ∧ (∀ i, i + 1 < k → 128 ≤ bt s (p + i)) ∧ bt s (p + k - 1) < 128
/-- No number ends within five bytes. -/
def NoEnd (s : ByteArray) (p : Nat) : Prop := ∀ i, i < 5 → p + i < s.size → 128 ≤ bt s (p + i)
/-- The first j bytes from p on are 128 or more. -/
def highTo (s : ByteArray) (p j : Nat) : Prop := ∀ i, i < j → 128 ≤ bt s (p + i)

theorem IsEnd.only {s : ByteArray} {p k j : Nat} (h : IsEnd s p k) (g : IsEnd s p j) : k = j := by
  obtain ⟨h1, h2, h3, h4, h5⟩ := h
  obtain ⟨g1, g2, g3, g4, g5⟩ := g
  rcases Nat.lt_trichotomy k j with hl | hl | hl
  · have := g4 (k - 1) (by omega)
    rw [show p + (k - 1) = p + k - 1 by omega] at this
    omega
  · exact hl
  · have := h4 (j - 1) (by omega)
    rw [show p + (j - 1) = p + j - 1 by omega] at this
    omega
theorem IsEnd.not_no {s : ByteArray} {p k : Nat} (h : IsEnd s p k) (g : NoEnd s p) : False := by
  obtain ⟨h1, h2, h3, h4, h5⟩ := h
  have := g (k - 1) (by omega) (by omega)
  rw [show p + (k - 1) = p + k - 1 by omega] at this
  omega
theorem isEnd_at {s : ByteArray} {p j : Nat} (h : highTo s p j) (hj : j < 5) (hs : p + j < s.size) (hb : bt s (p + j) < 128) : IsEnd s p (j + 1) :=
  ⟨by omega, by omega, by omega, fun i hi => h i (by omega), by simpa using hb⟩
theorem noEnd_of {s : ByteArray} {p j : Nat} (h : highTo s p j) (hj : 5 ≤ j ∨ s.size ≤ p + j) : NoEnd s p := fun i hi hs => h i (by omega)
theorem highTo_succ {s : ByteArray} {p j : Nat} (h : highTo s p j) (hb : 128 ≤ bt s (p + j)) : highTo s p (j + 1) := by
  intro i hi
  rcases Nat.lt_or_ge i j with h' | h'
  · exact h i h'
  · obtain rfl : i = j := by omega
    exact hb
theorem highTo_zero (s : ByteArray) (p : Nat) : highTo s p 0 := fun i h => absurd h (by omega)

/-- What the first k bytes from p on come to. -/
def val (s : ByteArray) (p : Nat) : Nat → Nat
  | 0 => 0
  | 1 => bt s p % 128
  | 2 => bt s p % 128 + bt s (p + 1) % 128 * 128
  | 3 => bt s p % 128 + bt s (p + 1) % 128 * 128 + bt s (p + 2) % 128 * 16384
  | 4 => bt s p % 128 + bt s (p + 1) % 128 * 128 + bt s (p + 2) % 128 * 16384 + bt s (p + 3) % 128 * 2097152
  | _ => bt s p % 128 + bt s (p + 1) % 128 * 128 + bt s (p + 2) % 128 * 16384 + bt s (p + 3) % 128 * 2097152 + bt s (p + 4) % 128 * 268435456

/-- A number of k bytes begins at p, and it is n. -/
def Num (s : ByteArray) (p n k : Nat) : Prop := IsEnd s p k ∧ ¬ (1 < k ∧ bt s (p + k - 1) = 0) ∧ n = val s p k ∧ n ≤ 999999999
theorem Num.only {s : ByteArray} {p n k m j : Nat} (h : Num s p n k) (g : Num s p m j) : n = m ∧ k = j := by
  have e := h.1.only g.1
  subst e
  exact ⟨h.2.2.1.trans g.2.2.1.symm, rfl⟩
def NoNum (s : ByteArray) (p : Nat) : Prop := ∀ n k, ¬ Num s p n k
theorem noNum_of_noEnd {s : ByteArray} {p : Nat} (h : NoEnd s p) : NoNum s p := fun _ _ hn => hn.1.not_no h
theorem noNum_zero {s : ByteArray} {p k : Nat} (h : IsEnd s p k) (hk : 1 < k) (hb : bt s (p + k - 1) = 0) : NoNum s p := by
  intro n j hn
  have e := h.only hn.1
  subst e
  exact hn.2.1 ⟨hk, hb⟩
theorem noNum_great {s : ByteArray} {p k : Nat} (h : IsEnd s p k) (hv : 999999999 < val s p k) : NoNum s p := by
  intro n j hn
  have e := h.only hn.1
  subst e
  have h1 := hn.2.2.1
  have h2 := hn.2.2.2
  omega
theorem val_lt (s : ByteArray) (p k : Nat) : val s p k < 34359738368 := by
  unfold val
  split <;> omega

/-- A text's bytes from p on are those of the text cut at p. -/
theorem bt_cut (s : ByteArray) (p i : Nat) : bt (s.extract p s.size) i = bt s (p + i) := by
  unfold bt
  by_cases h : p + i < s.size
  · have h' : i < (s.extract p s.size).size := by simp; omega
    rw [dif_pos h, dif_pos h']
    congr 1
    simp [ByteArray.getElem_extract]
  · have h' : ¬ i < (s.extract p s.size).size := by simp; omega
    rw [dif_neg h, dif_neg h']
theorem bt_head (s : ByteArray) (m i : Nat) (h : i < m) (hm : m ≤ s.size) : bt (s.extract 0 m) i = bt s i := by
  unfold bt
  have h1 : i < s.size := by omega
  have h' : i < (s.extract 0 m).size := by simp; omega
  rw [dif_pos h1, dif_pos h']
  congr 1
  simp [ByteArray.getElem_extract]
theorem isEnd_cut {s : ByteArray} {p k : Nat} (hp : p ≤ s.size) (h : IsEnd (s.extract p s.size) 0 k) : IsEnd s p k := by
  obtain ⟨h1, h2, h3, h4, h5⟩ := h
  refine ⟨h1, h2, ?_, fun i hi => ?_, ?_⟩
  · simp at h3; omega
  · have := h4 i hi
    rw [bt_cut] at this
    simpa using this
  · rw [bt_cut] at h5
    rw [show p + k - 1 = p + (0 + k - 1) by omega]
    exact h5
theorem noEnd_cut {s : ByteArray} {p : Nat} (h : NoEnd (s.extract p s.size) 0) : NoEnd s p := by
  intro i hi hs
  have := h i hi (by simp; omega)
  rw [bt_cut] at this
  simpa using this
theorem val_cut (s : ByteArray) (p k : Nat) : val (s.extract p s.size) 0 k = val s p k := by
  unfold val
  split <;> simp [bt_cut]
theorem num_cut {s : ByteArray} {p n k : Nat} (hp : p ≤ s.size) (h : Num (s.extract p s.size) 0 n k) : Num s p n k := by
  obtain ⟨h1, h2, h3, h4⟩ := h
  refine ⟨isEnd_cut hp h1, ?_, ?_, h4⟩
  · have hk := h1.1
    rw [bt_cut, show p + (0 + k - 1) = p + k - 1 by omega] at h2
    exact h2
  · rw [h3, val_cut]

/-- What a range over runes passes over in one step, where the byte is 128 or more, are bytes of 128 or more. -/
theorem decode_span (s : ByteArray) (pos : Nat) (hp : pos < s.size) (ha : 128 ≤ bt s pos) : ∀ j, j < (Utf8.decode s pos).2 → pos + j < s.size ∧ 128 ≤ bt s (pos + j) := by
  have h0 : (s.get! (pos + 0)).toNat = bt s pos := bt_bang s pos hp
  have hc : ∀ k, (decide (pos + k < s.size) && (s.get! (pos + k)).toNat / 64 == 2) = true → pos + k < s.size ∧ 128 ≤ bt s (pos + k) := by
    intro k hk
    simp only [Bool.and_eq_true, decide_eq_true_eq, beq_iff_eq] at hk
    have := bt_bang s (pos + k) hk.1
    exact ⟨hk.1, by omega⟩
  intro j hj
  have hz : j = 0 → pos + j < s.size ∧ 128 ≤ bt s (pos + j) := by rintro rfl; exact ⟨hp, ha⟩
  unfold Utf8.decode at hj
  dsimp only at hj
  rw [if_neg (by rw [h0]; omega)] at hj
  split at hj
  · rename_i h
    simp only [Bool.and_eq_true] at h
    have c1 := hc 1 (by simpa using h.2)
    split at hj
    · have : j = 0 ∨ j = 1 := by dsimp only at hj; omega
      rcases this with h | rfl
      · exact hz h
      · exact c1
    · exact hz (by dsimp only at hj; omega)
  · split at hj
    · rename_i h
      simp only [Bool.and_eq_true] at h
      have c1 := hc 1 (by simpa using h.1.2)
      have c2 := hc 2 (by simpa using h.2)
      split at hj
      · have : j = 0 ∨ j = 1 ∨ j = 2 := by dsimp only at hj; omega
        rcases this with h | rfl | rfl
        · exact hz h
        · exact c1
        · exact c2
      · exact hz (by dsimp only at hj; omega)
    · split at hj
      · rename_i h
        simp only [Bool.and_eq_true] at h
        have c1 := hc 1 (by simpa using h.1.1.2)
        have c2 := hc 2 (by simpa using h.1.2)
        have c3 := hc 3 (by simpa using h.2)
        split at hj
        · have : j = 0 ∨ j = 1 ∨ j = 2 ∨ j = 3 := by dsimp only at hj; omega
          rcases this with h | rfl | rfl | rfl
          · exact hz h
          · exact c1
          · exact c2
          · exact c3
        · exact hz (by dsimp only at hj; omega)
      · exact hz (by dsimp only at hj; omega)

/-- The bytes from the last to the first, as they are gathered: j of them. -/
def hv (s : ByteArray) (p k : Nat) : Nat → Nat
  | 0 => 0
  | j + 1 => hv s p k j * 128 + bt s (p + k - 1 - j) % 128
theorem hv_lt (s : ByteArray) (p k : Nat) : ∀ j, j ≤ 4 → hv s p k j < 268435456
  | 0, _ => by simp [hv]
  | 1, _ => by simp only [hv]; omega
  | 2, _ => by simp only [hv]; omega
  | 3, _ => by simp only [hv]; omega
  | 4, _ => by simp only [hv]; omega
  | j + 5, h => by omega
theorem hv_val (s : ByteArray) (p k : Nat) (h1 : 1 ≤ k) (h5 : k ≤ 5) : hv s p k k = val s p k := by
  have hc : k = 1 ∨ k = 2 ∨ k = 3 ∨ k = 4 ∨ k = 5 := by omega
  rcases hc with rfl | rfl | rfl | rfl | rfl
  all_goals
    simp only [hv, val, Nat.add_sub_cancel, Nat.sub_zero, show p + 2 - 1 - 0 = p + 1 by omega, show p + 2 - 1 - 1 = p by omega, show p + 3 - 1 - 0 = p + 2 by omega, show p + 3 - 1 - 1 = p + 1 by omega, show p + 3 - 1 - 2 = p by omega, show p + 4 - 1 - 0 = p + 3 by omega, show p + 4 - 1 - 1 = p + 2 by omega, show p + 4 - 1 - 2 = p + 1 by omega, show p + 4 - 1 - 3 = p by omega, show p + 5 - 1 - 0 = p + 4 by omega, show p + 5 - 1 - 1 = p + 3 by omega, show p + 5 - 1 - 2 = p + 2 by omega, show p + 5 - 1 - 3 = p + 1 by omega, show p + 5 - 1 - 4 = p by omega]
    omega
theorem and127 (b : Nat) (h : b < 256) : bits BinOp.and IntKind.u8 (b : Int) 127 = (b : Int) % 128 := by
  have : ∀ b : Fin 256, bits BinOp.and IntKind.u8 ((b.val : Nat) : Int) 127 = ((b.val : Nat) : Int) % 128 := by decide +kernel
  exact this ⟨b, h⟩
end Go.Proofs.YtmhngodbnoonhaaDoor


/-
  Plain mathematics of a number's digits: at most 18, none needless ahead; the digits of the value are the text itself.
-/
namespace Go.Proofs.YtmhngodbnoonhaaDoor

/-- What the first k digits come to. -/
def digVal (s : ByteArray) : Nat → Nat
  | 0 => 0
  | k + 1 => 10 * digVal s k + (bt s k - 48)
def allDig (s : ByteArray) (k : Nat) : Prop := ∀ i, i < k → 48 ≤ bt s i ∧ bt s i ≤ 57
theorem allDig_zero (s : ByteArray) : allDig s 0 := fun i h => absurd h (by omega)
theorem allDig_succ {s : ByteArray} {k : Nat} (h : allDig s k) (h1 : 48 ≤ bt s k) (h2 : bt s k ≤ 57) : allDig s (k + 1) := by
  intro i hi
  rcases Nat.lt_or_ge i k with h' | h'
  · exact h i h'
  · obtain rfl : i = k := by omega
    exact ⟨h1, h2⟩
theorem digVal_lt {s : ByteArray} : ∀ {k : Nat}, allDig s k → digVal s k < 10 ^ k
  | 0, _ => by simp [digVal]
  | k + 1, h => by
    have ih := digVal_lt (k := k) (fun i hi => h i (by omega))
    have := h k (by omega)
    rw [digVal, Nat.pow_succ]
    omega
theorem digVal_small {s : ByteArray} {k : Nat} (h : allDig s k) (hk : k ≤ 18) : digVal s k < 1000000000000000000 := by
  have h1 := digVal_lt h
  have h2 : 10 ^ k ≤ 10 ^ 18 := Nat.pow_le_pow_right (by omega) hk
  have : (10 : Nat) ^ 18 = 1000000000000000000 := by decide
  omega
theorem digVal_small' {s : ByteArray} {k : Nat} (h : allDig s k) (hk : k ≤ 17) : digVal s k < 100000000000000000 := by
  have h1 := digVal_lt h
  have h2 : 10 ^ k ≤ 10 ^ 17 := Nat.pow_le_pow_right (by omega) hk
  have : (10 : Nat) ^ 17 = 100000000000000000 := by decide
  omega

/-- The text is the number n, as it is told. -/
def IsDec (s : ByteArray) (n : Nat) : Prop := 1 ≤ s.size ∧ s.size ≤ 18 ∧ ¬ (1 < s.size ∧ bt s 0 = 48) ∧ allDig s s.size ∧ n = digVal s s.size
def NoDec (s : ByteArray) : Prop := ∀ n, ¬ IsDec s n
theorem IsDec.only {s : ByteArray} {n m : Nat} (h : IsDec s n) (g : IsDec s m) : n = m := h.2.2.2.2.trans g.2.2.2.2.symm
theorem IsDec.lt {s : ByteArray} {n : Nat} (h : IsDec s n) : n < 1000000000000000000 := by
  obtain ⟨_, h2, _, h4, rfl⟩ := h
  exact digVal_small h4 h2
theorem noDec_empty {s : ByteArray} (h : s.size = 0) : NoDec s := fun n hn => by have := hn.1; omega
theorem noDec_long {s : ByteArray} (h : 18 < s.size) : NoDec s := fun n hn => by have := hn.2.1; omega
theorem noDec_zero {s : ByteArray} (h : 1 < s.size) (h0 : bt s 0 = 48) : NoDec s := fun _ hn => hn.2.2.1 ⟨h, h0⟩
theorem noDec_at {s : ByteArray} {k : Nat} (hk : k < s.size) (h : ¬ (48 ≤ bt s k ∧ bt s k ≤ 57)) : NoDec s := fun _ hn => h (hn.2.2.2.1 k hk)

/-- A number's digits. -/
def decT (n : Nat) : ByteArray := if _h : n < 10 then strOfNums [48 + (n : Int)] else decT (n / 10) ++ strOfNums [48 + ((n % 10 : Nat) : Int)]
termination_by n
decreasing_by omega

theorem byte_at (s : ByteArray) (k : Nat) (hk : k < s.size) {d : Nat} (hd : bt s k = 48 + d) : strOfNums [48 + (d : Int)] = s.extract k (k + 1) := by
  have e : UInt8.ofNat (48 + d) = s[k]'hk := by
    rw [← hd, ← bt_get s k hk]
    simp
  have e2 : (48 + (d : Int)).toNat = 48 + d := by omega
  apply ByteArray.ext
  apply Array.ext
  · simp [strOfNums]; omega
  · intro i h1 h2
    obtain rfl : i = 0 := by simp [strOfNums] at h1; omega
    simp only [strOfNums, List.map_cons, List.map_nil, e2]
    simp only [List.getElem_toArray, List.getElem_cons_zero]
    rw [e]
    simp [ByteArray.data_extract]
    rfl
theorem digVal_pos {s : ByteArray} : ∀ {k : Nat}, 1 ≤ k → allDig s k → bt s 0 ≠ 48 → 1 ≤ digVal s k
  | 0, h, _, _ => by omega
  | 1, _, h, h0 => by
    have := h 0 (by omega)
    simp only [digVal]
    omega
  | k + 2, _, h, h0 => by
    have := digVal_pos (k := k + 1) (by omega) (fun i hi => h i (by omega)) h0
    rw [digVal]
    omega
theorem decT_digVal {s : ByteArray} : ∀ {k : Nat}, 1 ≤ k → k ≤ s.size → allDig s k → ¬ (1 < k ∧ bt s 0 = 48) → decT (digVal s k) = s.extract 0 k
  | 0, h, _, _, _ => by omega
  | 1, _, hs, h, _ => by
    have hd := h 0 (by omega)
    have e : digVal s 1 = bt s 0 - 48 := by simp [digVal]
    rw [e, decT, dif_pos (by omega)]
    exact byte_at s 0 (by omega) (by omega)
  | k + 2, _, hs, h, h0 => by
    have hd := h (k + 1) (by omega)
    have hne : bt s 0 ≠ 48 := fun e => h0 ⟨by omega, e⟩
    have ih := decT_digVal (k := k + 1) (by omega) (by omega) (fun i hi => h i (by omega)) (fun hh => hne hh.2)
    have hp := digVal_pos (k := k + 1) (by omega) (fun i hi => h i (by omega)) hne
    have e : digVal s (k + 2) = 10 * digVal s (k + 1) + (bt s (k + 1) - 48) := rfl
    generalize digVal s (k + 1) = m at ih hp e
    rw [e, decT, dif_neg (by omega), show (10 * m + (bt s (k + 1) - 48)) / 10 = m by omega, show (10 * m + (bt s (k + 1) - 48)) % 10 = bt s (k + 1) - 48 by omega, ih, byte_at s (k + 1) (by omega) (by omega : bt s (k + 1) = 48 + (bt s (k + 1) - 48))]
    rw [ByteArray.extract_append_extract]
    congr 1 <;> omega
theorem IsDec.text {s : ByteArray} {n : Nat} (h : IsDec s n) : decT n = s := by
  obtain ⟨h1, _, h3, h4, rfl⟩ := h
  rw [decT_digVal h1 (Nat.le_refl _) h4 h3]
  simp
theorem decT_size : ∀ (f n : Nat), n < 10 ^ (f + 1) → (decT n).size ≤ f + 1
  | 0, n, h => by
    rw [decT, dif_pos (by simpa using h)]
    simp [strOfNums_size]
  | f + 1, n, h => by
    by_cases hn : n < 10
    · rw [decT, dif_pos hn]
      simp [strOfNums_size]
    · rw [decT, dif_neg hn, ByteArray.size_append, strOfNums_size]
      have := decT_size f (n / 10) (by rw [Nat.pow_succ] at h; omega)
      simp
      omega
end Go.Proofs.YtmhngodbnoonhaaDoor


/-
  An instruction read from its words: which words are one, and which.
-/
namespace Go.Proofs.YtmhngodbnoonhaaDoor
open Go.RowKit

/-- The number of a word; 0 of any other word. -/
def opK (t : ByteArray) : Nat := if t = opB 1 then 1 else if t = opB 2 then 2 else if t = opB 3 then 3 else if t = opB 4 then 4 else if t = opB 5 then 5 else if t = opB 6 then 6 else if t = opB 7 then 7 else if t = opB 8 then 8 else 0

theorem opK_opB (k : Nat) (hk : k < 9) : opK (opB k) = k := by
  match k, hk with
  | 0, _ => decide
  | 1, _ => decide
  | 2, _ => decide
  | 3, _ => decide
  | 4, _ => decide
  | 5, _ => decide
  | 6, _ => decide
  | 7, _ => decide
  | 8, _ => decide
theorem opK_cases (t : ByteArray) : opK t = 0 ∨ (opK t < 9 ∧ t = opB (opK t)) := by
  unfold opK
  split
  · rename_i h; exact .inr ⟨by omega, h⟩
  split
  · rename_i h; exact .inr ⟨by omega, h⟩
  split
  · rename_i h; exact .inr ⟨by omega, h⟩
  split
  · rename_i h; exact .inr ⟨by omega, h⟩
  split
  · rename_i h; exact .inr ⟨by omega, h⟩
  split
  · rename_i h; exact .inr ⟨by omega, h⟩
  split
  · rename_i h; exact .inr ⟨by omega, h⟩
  split
  · rename_i h; exact .inr ⟨by omega, h⟩
  · exact .inl rfl
theorem opK_lt (t : ByteArray) : opK t < 9 := by
  rcases opK_cases t with h | h
  · omega
  · exact h.1
theorem opK_eq {t : ByteArray} {k : Nat} (h0 : k ≠ 0) (hk : k < 9) : opB k = t ↔ opK t = k := by
  constructor
  · rintro rfl
    exact opK_opB k hk
  · intro h
    rcases opK_cases t with h' | h'
    · omega
    · rw [h] at h'; exact h'.2.symm
theorem opK_none {t : ByteArray} (h : ∀ j, j < 9 → opB j ≠ t) : opK t = 0 := by
  rcases opK_cases t with h' | h'
  · exact h'
  · exact absurd h'.2.symm (h _ h'.1)

/-- The words are the instruction x. -/
def IsRead (ws : List ByteArray) (x : I3) : Prop :=
  (∃ t0 t1 a, ws = [t0, t1] ∧ (opK t0 = 5 ∨ opK t0 = 6) ∧ IsDec t1 a ∧ x = ((opK t0 : Int), (a : Int), 0) ∧ okI x = true) ∨
  (∃ t0 t1 t2 a b, ws = [t0, t1, t2] ∧ ¬ (opK t0 = 5 ∨ opK t0 = 6) ∧ opK t0 ≠ 0 ∧ IsDec t1 a ∧ IsDec t2 b ∧ x = ((opK t0 : Int), (a : Int), (b : Int)) ∧ okI x = true)
def NoRead (ws : List ByteArray) : Prop := ∀ x, ¬ IsRead ws x
theorem IsRead.only {ws : List ByteArray} {x y : I3} (h : IsRead ws x) (g : IsRead ws y) : x = y := by
  rcases h with ⟨t0, t1, a, rfl, _, ha, rfl, _⟩ | ⟨t0, t1, t2, a, b, rfl, _, _, ha, hb, rfl, _⟩ <;> rcases g with ⟨s0, s1, c, e, _, hc, rfl, _⟩ | ⟨s0, s1, s2, c, d, e, _, _, hc, hd, rfl, _⟩
  · cases e
    rw [ha.only hc]
  · cases e
  · cases e
  · cases e
    rw [ha.only hc, hb.only hd]
theorem IsRead.ok {ws : List ByteArray} {x : I3} (h : IsRead ws x) : okI x = true := by
  rcases h with ⟨_, _, _, _, _, _, _, h⟩ | ⟨_, _, _, _, _, _, _, _, _, _, _, h⟩ <;> exact h
theorem noRead_nil : NoRead [] := by
  rintro x (⟨_, _, _, h, _⟩ | ⟨_, _, _, _, _, h, _⟩) <;> cases h
theorem noRead_op {ws : List ByteArray} {t0 : ByteArray} (h : ws[0]? = some t0) (hk : opK t0 = 0) : NoRead ws := by
  rintro x (⟨s0, s1, a, rfl, h5, _⟩ | ⟨s0, s1, s2, a, b, rfl, _, h0, _⟩)
  · simp at h; subst h; omega
  · simp at h; subst h; omega
theorem noRead_len2 {ws : List ByteArray} {t0 : ByteArray} (h : ws[0]? = some t0) (hk : opK t0 = 5 ∨ opK t0 = 6) (hl : ws.length ≠ 2) : NoRead ws := by
  rintro x (⟨s0, s1, a, rfl, h5, _⟩ | ⟨s0, s1, s2, a, b, rfl, hn, h0, _⟩)
  · simp at hl
  · simp at h; subst h; exact hn hk
theorem noRead_len3 {ws : List ByteArray} {t0 : ByteArray} (h : ws[0]? = some t0) (hk : ¬ (opK t0 = 5 ∨ opK t0 = 6)) (hl : ws.length ≠ 3) : NoRead ws := by
  rintro x (⟨s0, s1, a, rfl, h5, _⟩ | ⟨s0, s1, s2, a, b, rfl, hn, h0, _⟩)
  · simp at h; subst h; exact hk h5
  · simp at hl
theorem noRead_two_bad {t0 t1 : ByteArray} (h : NoDec t1) : NoRead [t0, t1] := by
  rintro x (⟨s0, s1, a, e, h5, ha, _⟩ | ⟨s0, s1, s2, a, b, e, hn, h0, _⟩)
  · cases e; exact h _ ha
  · cases e
theorem noRead_two_no {t0 t1 : ByteArray} {a : Nat} (ha : IsDec t1 a) (h : okI ((opK t0 : Int), (a : Int), 0) = false) : NoRead [t0, t1] := by
  rintro x (⟨s0, s1, c, e, h5, hc, rfl, hok⟩ | ⟨s0, s1, s2, c, b, e, hn, h0, _⟩)
  · cases e
    rw [hc.only ha, h] at hok
    cases hok
  · cases e
theorem noRead_three_bad {t0 t1 t2 : ByteArray} (h : NoDec t1 ∨ NoDec t2) : NoRead [t0, t1, t2] := by
  rintro x (⟨s0, s1, a, e, h5, ha, _⟩ | ⟨s0, s1, s2, a, b, e, hn, h0, ha, hb, _⟩)
  · cases e
  · cases e
    rcases h with h | h
    · exact h _ ha
    · exact h _ hb
theorem noRead_three_no {t0 t1 t2 : ByteArray} {a b : Nat} (ha : IsDec t1 a) (hb : IsDec t2 b) (h : okI ((opK t0 : Int), (a : Int), (b : Int)) = false) : NoRead [t0, t1, t2] := by
  rintro x (⟨s0, s1, c, e, h5, hc, rfl, hok⟩ | ⟨s0, s1, s2, c, d, e, hn, h0, hc, hd, rfl, hok⟩)
  · cases e
  · cases e
    rw [hc.only ha, hd.only hb, h] at hok
    cases hok

/-- What a reading of an instruction answers. -/
def ReadOut (ws : List ByteArray) (e : Ending) : Prop :=
  (∃ x, IsRead ws x ∧ e = .returned (.tuple #[x.val, .bool true])) ∨ (NoRead ws ∧ ∃ y : I3, e = .returned (.tuple #[y.val, .bool false]))

theorem beq_tx (x y : ByteArray) (h : x ≠ y) : (x.toList == y.toList) = false := by
  rw [beq_eq_false_iff_ne]
  intro e
  rw [ByteArray.toList_eq, ByteArray.toList_eq] at e
  apply h
  cases x; cases y
  simp at e
  rw [e]
end Go.Proofs.YtmhngodbnoonhaaDoor
