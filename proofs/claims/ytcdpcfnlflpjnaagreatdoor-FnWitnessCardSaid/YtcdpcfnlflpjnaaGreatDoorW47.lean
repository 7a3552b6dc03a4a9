/-
  Joined: LstM, At, SameInts, RowBelow.
-/
import Derived.Test.YtcdpcfnlflpjnaaGreatDoorW46

namespace Go.Proofs.YtcdpcfnlflpjnaaGreatDoor
set_option maxRecDepth 100000
open Go.RowKit
set_option linter.unusedVariables false

theorem lst_slice {w : World} {B : Nat} {v : Value} {xs : List Int} (h : w.ownsRow B 3 1 v xs.length (xs.map (Value.int .i64))) : ∃ a cap, v = .slice a xs.length cap ∧ Ints .i64 w a xs.length cap xs := by
 obtain ⟨a, cap, rfl⟩ := owns_sliceN h
 exact ⟨a, cap, rfl, ints_of_row h⟩


def Chosen (n : Int) (e : Ending) : Prop := ∃ v : Nat, ((v : Int) < n ∨ v = 0) ∧ e = .returned (.int .i64 v)
theorem chosen_mk {n x : Int} (h0 : 0 ≤ x) (h : x < n) : Chosen n (.returned (.int .i64 x)) := ⟨x.toNat, .inl (by omega), by rw [Int.toNat_of_nonneg h0]⟩

set_option maxHeartbeats 4000000 in
theorem at_any (a : Option Addr) (len cap : Nat) (zs : List Int) (i n : Int) (w : World) (hI : IsRow .u8 w a len cap zs) (hlen : len ≤ 1048576) (hi0 : 0 ≤ i) (hi1 : i ≤ 1000000) (hn : n ≤ 1000000000) :
  Calls Tryz.prog 11 #[.slice a len cap, .int .i64 i, .int .i64 n] w fun e w' => Chosen n e ∧ ∃ d, w' = w.drewN d := by
 by_cases h1 : n ≤ 1
 ·go_enter Tryz.func11, Tryz.ntmps11
  go_wp2
  go_ret
  exact ⟨⟨0, .inr rfl, rfl⟩, 0, rfl⟩
 by_cases h0 : len = 0
 ·subst h0
  go_enter Tryz.func11, Tryz.ntmps11
  go_wp2
  go_ret
  exact ⟨chosen_mk (Int.emod_nonneg (i * 7) (by omega)) (Int.emod_lt_of_pos (i * 7) (by omega)), 0, rfl⟩
 ·have hbnd : ∀ j, j < len → 0 ≤ (zs.take len).getD j 0 ∧ (zs.take len).getD j 0 ≤ 255 := by
   intro j hj
   rcases hI with ⟨_, hl0, _, _⟩ | ⟨x, _, hlc, _, hzl, _, hw⟩
   ·exact absurd hl0 h0
   ·have hm : (zs.take len).getD j 0 ∈ zs := by
     have hjz : j < zs.length := by omega
     simp [List.getD, hj, List.getElem?_eq_getElem hjz]
    have hw' := hw _ hm
    generalize (zs.take len).getD j 0 = y at hw' ⊢
    simp [Lit.wf, IntKind.min, IntKind.max, IntKind.signed, IntKind.bits] at hw'
    omega
  obtain ⟨hl, hlc, hcm, hcase⟩ := Ints.of_isRow hI
  unfold maxLen at hcm
  rcases hcase with h0' | ⟨b, off, rfl, hblt, hcell⟩
  ·exact absurd h0' h0
  obtain ⟨k, rfl⟩ := Int.eq_ofNat_of_zero_le hi0
  have hpos : 0 < len := by omega
  obtain ⟨q, hq⟩ : ∃ q : Nat, q = k % len := ⟨_, rfl⟩
  obtain ⟨r, hr⟩ : ∃ r : Nat, r = (k + 1) % len := ⟨_, rfl⟩
  obtain ⟨d, hd⟩ : ∃ d : Nat, d = k / len := ⟨_, rfl⟩
  have hql : q < len := by rw [hq]; exact Nat.mod_lt _ hpos
  have hrl : r < len := by rw [hr]; exact Nat.mod_lt _ hpos
  have hdk : d ≤ k := by rw [hd]; exact Nat.div_le_self _ _
  have t1 : ((k : Int)).tmod (len : Int) = (q : Int) := by rw [hq, Int.tmod_eq_emod_of_nonneg (by omega)]; rfl
  have t2 : ((k : Int) + 1).tmod (len : Int) = (r : Int) := by rw [hr, Int.tmod_eq_emod_of_nonneg (by omega)]; rfl
  have t3 : ((k : Int)).tdiv (len : Int) = (d : Int) := by rw [hd, Int.tdiv_eq_ediv_of_nonneg (by omega)]; rfl
  have cq := hcell q hql
  have cr := hcell r hrl
  obtain ⟨x1, x2⟩ := hbnd q hql
  obtain ⟨y1, y2⟩ := hbnd r hrl
  generalize (zs.take len).getD q 0 = x at cq x1 x2
  generalize (zs.take len).getD r 0 = y at cr y1 y2
  have hq1 : (q : Int) < (len : Int) := by omega
  have hr1 : (r : Int) < (len : Int) := by omega
  have w1 : IntKind.i64.wrap ((k : Int) + 1) = (k : Int) + 1 := IntWalk.i64_in _ ⟨by omega, by omega⟩
  have w2 : IntKind.i64.wrap (d : Int) = (d : Int) := IntWalk.i64_in _ ⟨by omega, by omega⟩
  have w3 : IntKind.i64.wrap x = x := IntWalk.i64_in _ ⟨by omega, by omega⟩
  have w4 : IntKind.i64.wrap y = y := IntWalk.i64_in _ ⟨by omega, by omega⟩
  have w5 : IntKind.i64.wrap (x * 31) = x * 31 := IntWalk.i64_in _ ⟨by omega, by omega⟩
  have w6 : IntKind.i64.wrap (x * 31 + y) = x * 31 + y := IntWalk.i64_in _ ⟨by omega, by omega⟩
  have w7 : IntKind.i64.wrap (x * 31 + y + (d : Int)) = x * 31 + y + (d : Int) := IntWalk.i64_in _ ⟨by omega, by omega⟩
  have t4 : (x * 31 + y + (d : Int)).tmod n = (x * 31 + y + (d : Int)) % n := Int.tmod_eq_emod_of_nonneg (by omega)
  have hne : ((len : Int) == 0) = false := by simp; omega
  have hnn : (n == 0) = false := by simp; omega
  have hne' : ¬ (len : Int) = 0 := by omega
  have hnn' : ¬ n = 0 := by omega
  clear hcell hbnd hI hq hr hd hl
  go_enter Tryz.func11, Tryz.ntmps11
  go_wp2
  go_quiet (fail)
  go_wp2
  go_ret
  exact ⟨chosen_mk (Int.emod_nonneg (x * 31 + y + (d : Int)) (by omega)) (Int.emod_lt_of_pos (x * 31 + y + (d : Int)) (by omega)), _, rfl⟩


set_option maxHeartbeats 1000000 in
theorem sameInts_same (a a' : Option Addr) (len cap cap' : Nat) (zs : List Int) (w : World) (h : Ints .i64 w a len cap zs) (h' : Ints .i64 w a' len cap' zs) :
  Calls Tryz.prog 26 #[.slice a len cap, .slice a' len cap'] w fun e w' => e = .returned (.bool true) ∧ ∃ d, w' = w.drewN d := by
 obtain ⟨hl, hlc, hcm, hcase⟩ := h
 obtain ⟨_, hlc', hcm', hcase'⟩ := h'
 unfold maxLen at hcm hcm'
 have hne : ((len : Int) != (len : Int)) = false := by simp
 by_cases h0 : len = 0
 ·subst h0
  go_enter Tryz.func26, Tryz.ntmps26
  go_wp2
  refine wp_loop_rounds 1 ?_
  rw [rounds_succ]
  go_wp2
  go_ret
  exact ⟨rfl, 0, rfl⟩
 ·rcases hcase with h0' | ⟨b, off, rfl, hblt, hcell⟩
  ·exact absurd h0' h0
  rcases hcase' with h0' | ⟨b', off', rfl, hblt', hcell'⟩
  ·exact absurd h0' h0
  go_enter Tryz.func26, Tryz.ntmps26
  go_wp2
  go_loopw [5] (fun si wr => ∃ k d : Nat, k ≤ len ∧ si = .int .i64 k ∧ wr = w.drewN d) (fun si _ => len - (intOf si).toNat)
  case atStart => exact ⟨0, 0, by omega, rfl, rfl⟩
  case round =>
   obtain ⟨k, d, hk, rfl, rfl⟩ := hrel
   by_cases hlt : k < len
   ·have hc := hcell k hlt
    have hc' := hcell' k hlt
    have hlt' : (k : Int) < (len : Int) := by omega
    generalize zs.getD k 0 = x at hc hc'
    clear hcell hcell'
    go_wp2
    go_quiet (fail)
    go_wp2
    go_roundw
    case rel => exact ⟨k + 1, _, by omega, by go_num, rfl⟩
    case measure => simp [intOf]; omega
   ·go_wp2
    go_ret
    exact ⟨rfl, d, rfl⟩


theorem IsRow.below {k : IntKind} {w w' : World} {a : Option Addr} {len cap : Nat} {zs : List Int} (h : IsRow k w a len cap zs) (hb : Below w.heap.size w w') : IsRow k w' a len cap zs := by
 rcases h with h | ⟨x, h1, h2, h3, h4, h5, h6⟩
 ·exact .inl h
 ·refine .inr ⟨x, h1, h2, h3, h4, fun i hi => ?_, h6⟩
  have hc := h5 i hi
  have hlt : (x.add i).block < w.heap.size := by
   rcases Nat.lt_or_ge (x.add i).block w.heap.size with h' | h'
   ·exact h'
   ·simp [World.cell?, Array.getElem?_eq_none h'] at hc
  rw [hb.cell hlt]
  exact hc
theorem IsRow.len_le {k : IntKind} {w : World} {a : Option Addr} {len cap : Nat} {zs : List Int} (h : IsRow k w a len cap zs) : len ≤ maxLen := by
 rcases h with ⟨_, rfl, _, _⟩ | ⟨x, h1, h2, h3, _⟩
 ·omega
 ·omega
theorem IsRow.drew {k : IntKind} {w : World} {a : Option Addr} {len cap : Nat} {zs : List Int} (h : IsRow k w a len cap zs) (d : Nat) : IsRow k (w.drewN d) a len cap zs := h
end Go.Proofs.YtcdpcfnlflpjnaaGreatDoor
