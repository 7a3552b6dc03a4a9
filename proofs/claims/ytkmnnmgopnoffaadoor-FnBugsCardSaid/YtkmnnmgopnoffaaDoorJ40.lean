/-
  FnBugs, part 40 of 50 (OpI).
-/
import Derived.Test.YtkmnnmgopnoffaaDoorJ17
import Derived.Test.YtkmnnmgopnoffaaDoorJ38
import Derived.Test.YtkmnnmgopnoffaaDoorJ20
import Derived.Test.YtkmnnmgopnoffaaDoorJ10

/-
  impl.opOf: a word's number; impl.numbersOfWords: the numbers that words are.
-/
namespace Go.Proofs.YtkmnnmgopnoffaaDoor
open Go.RowKit

theorem owns_below1 {B e k n : Nat} {v : Value} {xs : List Value} {w w' : World} (h : w.ownsRow B e k v n xs) (hb : Below w.heap.size w w') : w'.ownsRow B e k v n xs :=
  h.kept (row := none) ⟨hb.os, hb.tape, hb.output, hb.size, fun i hi _ => hb.block i hi⟩ (by cases v.ownBlock <;> simp)

/-- The words are the numbers ns. -/
def AllDec : List ByteArray → List Nat → Prop
  | [], [] => True
  | t :: ts, n :: ns => IsDec t n ∧ AllDec ts ns
  | _, _ => False
theorem allDec_snoc : ∀ {ts : List ByteArray} {ns : List Nat} {t : ByteArray} {n : Nat}, AllDec ts ns → IsDec t n → AllDec (ts ++ [t]) (ns ++ [n])
  | [], [], _, _, _, h => ⟨h, trivial⟩
  | [], _ :: _, _, _, h, _ => h.elim
  | _ :: _, [], _, _, h, _ => h.elim
  | _ :: _, _ :: _, _, _, h, g => ⟨h.1, allDec_snoc h.2 g⟩
theorem AllDec.length : ∀ {ts : List ByteArray} {ns : List Nat}, AllDec ts ns → ts.length = ns.length
  | [], [], _ => rfl
  | [], _ :: _, h => h.elim
  | _ :: _, [], h => h.elim
  | _ :: _, _ :: _, h => by simp [AllDec.length h.2]

/-- What numbersOfWords answers. -/
def NumsOut (ts : List ByteArray) (base : Nat) (e : Ending) (w' : World) : Prop :=
  (∃ (ns : List Nat) (v : Value), AllDec ts ns ∧ e = .returned (.tuple #[v, .bool true]) ∧ w'.ownsRow base 3 1 v ns.length ((ns.map fun n : Nat => (n : Int)).map (Value.int .i64))) ∨
  ((∃ t ∈ ts, NoDec t) ∧ e = .returned (.tuple #[.slice none 0 0, .bool false]))

theorem one_i64o (a : Int) : ∀ u ∈ [Value.int .i64 a], u.oneCell' = true := by intro u hu; simp at hu; subst hu; rfl
theorem one_cell_i (w : World) (x : Value) (t : TypeId) : ∀ j u, [x][j]? = some u → (w.alloc (.cells #[x] t)).cell? ((⟨w.heap.size, 0, none⟩ : Addr).add j) = some u := by
  intro j u hj
  match j, hj with
  | 0, hj => simp at hj; subst hj; simp [Addr.add]
  | (j + 1), hj => simp at hj

set_option maxHeartbeats 2000000 in
set_option maxRecDepth 100000 in
theorem numbersOfWords_any (a : Option Addr) (n cap : Nat) (ts : List ByteArray) (w : World) (h : Strs w a n cap ts) (hn : n ≤ 2000000) (hsz : ∀ t ∈ ts, t.size ≤ maxLen) :
    Calls Tryd.prog 124 #[.slice a n cap] w fun e w' => NumsOut ts w.heap.size e w' ∧ Below w.heap.size w w' := by
  obtain ⟨i0, hi, hz0, hz1, hz2⟩ := info_parts info_int
  obtain ⟨hl, hlc, hcm, hcase⟩ := h
  unfold maxLen at hcm
  go_enter Tryd.func124, Tryd.ntmps124
  go_wp2
  go_loopw [4, 11] (fun sv si wr => ∃ (k : Nat) (ns : List Nat), k ≤ n ∧ si = .int .i64 k ∧ ns.length = k ∧ Hid (AllDec (ts.take k) ns) ∧ wr.ownsRow w.heap.size 3 1 sv k ((ns.map fun n : Nat => (n : Int)).map (Value.int .i64)) ∧ Below w.heap.size w wr) (fun _ si _ => n - (intOf si).toNat)
  case atStart => exact ⟨0, [], by omega, rfl, rfl, trivial, World.ownsRow_nil _ _ _ _, Below.refl _ _⟩
  case round =>
    obtain ⟨k, ns, hk, rfl, hnl, hA, hr, hbel⟩ := hrel
    have hbs := hbel.size
    by_cases hlt : k < n
    · have hlt2 : (k : Int) < (n : Int) := by omega
      have hk0 : (0 : Int) ≤ (k : Int) := by omega
      rcases hcase with h0 | ⟨b, off, rfl, hblt, hcell⟩
      · omega
      have hc := hcell k hlt
      rw [← hbel.cell (p := ⟨b, _, none⟩) hblt] at hc
      have hmem : ts.getD k ByteArray.empty ∈ ts := by simp [List.getD, show k < ts.length by omega]
      have hts := hsz _ hmem
      have hstep : ts.take (k + 1) = ts.take k ++ [ts.getD k ByteArray.empty] := by
        rw [List.take_succ_eq_append_getElem (show k < ts.length by omega)]
        simp [List.getD, show k < ts.length by omega]
      generalize ts.getD k ByteArray.empty = t at hc hmem hts hstep
      go_wp2_with fail
      refine (readDigits_any t _ hts).mono ?_
      rintro e w1 ⟨hk1, hb1⟩
      have hr1 := owns_below1 hr hb1
      have hbel1 : Below w.heap.size w w1 := bel_trans hbel hb1
      have hbs1 := hbel1.size
      clear hr hbel hb1 hc hcell
      rcases hk1 with ⟨m, hm, rfl⟩ | ⟨hN, z, rfl⟩
      · have hA2 : Hid (AllDec (ts.take (k + 1)) (ns ++ [m])) := by rw [Hid, hstep]; exact allDec_snoc hA.out hm
        clear hm hA hstep hmem
        go_wp2_with (at_builtin; refine wpList_append_own _ rfl _ _ 27 rfl w.heap.size 3 i0 (.int .i64 0) 1 8 Tryd.underlying27 hi hz0 hz1 hz2 rfl (by decide) _ _ _ rfl (hr1.alloc _) ⟨w1.heap.size, 0, none⟩ 1 1 [.int .i64 (m : Int)] rfl rfl (one_cell_i _ _ _) (one_i64o _) ?c3 ?c4 ?c5 ?_)
        case c3 => unfold maxLen; omega
        case c4 => omega
        case c5 => simp; omega
        intro v2 w2 hown2 hgrow2 _
        have hb3 : Below w.heap.size w w2 := (hbel1.alloc hbs1 _).grown hgrow2 (by simp; omega) (fun j hj => (hr1.lt _ hj).1)
        have hr2 : w2.ownsRow w.heap.size 3 1 v2 (k + 1) (((ns ++ [m]).map fun n : Nat => (n : Int)).map (Value.int .i64)) := by simpa using hown2
        clear hown2 hgrow2 hr1 hbel1
        go_wp2
        go_roundw
        case rel => exact ⟨k + 1, ns ++ [m], by omega, by go_num, by simp [hnl], hA2, hr2, hb3⟩
        case measure => simp [intOf]; omega
      · have HN : Hid (∃ t ∈ ts, NoDec t) := ⟨t, hmem, hN⟩
        clear hN hA hstep hmem hr1
        go_wp2
        go_ret2
        exact ⟨.inr ⟨HN.out, rfl⟩, hbel1⟩
    · obtain rfl : k = n := by omega
      have HA : Hid (AllDec ts ns) := by have := hA.out; rwa [List.take_of_length_le (by omega)] at this
      rw [← hnl] at hr
      have HR : Hid (wr.ownsRow w.heap.size 3 1 u4 ns.length ((ns.map fun n : Nat => (n : Int)).map (Value.int .i64))) := hr
      clear hA hr hcase
      go_wp2
      go_ret2
      exact ⟨.inl ⟨ns, _, HA.out, rfl, HR.out⟩, hbel⟩
end Go.Proofs.YtkmnnmgopnoffaaDoor
