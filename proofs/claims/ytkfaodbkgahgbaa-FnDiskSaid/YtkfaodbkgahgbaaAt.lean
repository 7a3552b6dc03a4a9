
/-
  The laws' own choice 'at': a number from 0 to n - 1 out of some bytes, 0 where n is at most 1; nothing is written.
-/
import Derived.Test.YtkfaodbkgahgbaaInts0
namespace Go.Proofs.Ytkfaodbkgahgbaa
open Go.RowKit

/-- A number from 0 to n - 1 is answered (0 where n is at most 1). -/
def Chosen (n : Int) (e : Ending) : Prop := ∃ v : Nat, ((v : Int) < n ∨ v = 0) ∧ e = .returned (.int .i64 v)
theorem chosen_mk {n x : Int} (h0 : 0 ≤ x) (h : x < n) : Chosen n (.returned (.int .i64 x)) := ⟨x.toNat, .inl (by omega), by rw [Int.toNat_of_nonneg h0]⟩

set_option maxHeartbeats 4000000 in
set_option maxRecDepth 100000 in
theorem at_any (a : Option Addr) (len cap : Nat) (zs : List Int) (i n : Int) (w : World) (hI : IsRow .u8 w a len cap zs) (hlen : len ≤ 1048576) (hi0 : 0 ≤ i) (hi1 : i ≤ 1000000) (hn : n ≤ 1000000000) :
    Calls Try.prog 11 #[.slice a len cap, .int .i64 i, .int .i64 n] w fun e w' => Chosen n e ∧ ∃ d, w' = w.drewN d := by
  by_cases h1 : n ≤ 1
  · go_enter Try.func11, Try.ntmps11
    go_wp2
    go_ret
    exact ⟨⟨0, .inr rfl, rfl⟩, 0, rfl⟩
  by_cases h0 : len = 0
  · subst h0
    go_enter Try.func11, Try.ntmps11
    go_wp2
    go_ret
    exact ⟨chosen_mk (Int.emod_nonneg (i * 7) (by omega)) (Int.emod_lt_of_pos (i * 7) (by omega)), 0, rfl⟩
  · have hbnd : ∀ j, j < len → 0 ≤ (zs.take len).getD j 0 ∧ (zs.take len).getD j 0 ≤ 255 := by
      intro j hj
      rcases hI with ⟨_, hl0, _, _⟩ | ⟨x, _, hlc, _, hzl, _, hw⟩
      · exact absurd hl0 h0
      · have hm : (zs.take len).getD j 0 ∈ zs := by
          have hjz : j < zs.length := by omega
          simp [List.getD, hj, List.getElem?_eq_getElem hjz]
        have hw' := hw _ hm
        generalize (zs.take len).getD j 0 = y at hw' ⊢
        simp [Lit.wf, IntKind.min, IntKind.max, IntKind.signed, IntKind.bits] at hw'
        omega
    obtain ⟨hl, hlc, hcm, hcase⟩ := Ints.of_isRow hI
    unfold maxLen at hcm
    rcases hcase with h0' | ⟨b, off, rfl, hblt, hcell⟩
    · exact absurd h0' h0
    obtain ⟨k, rfl⟩ := Int.eq_ofNat_of_zero_le hi0
    have hpos : 0 < len := by omega
    obtain ⟨q, hq⟩ : ∃ q : Nat, q = k % len := ⟨_, rfl⟩
    obtain ⟨r, hr⟩ : ∃ r : Nat, r = (k + 1) % len := ⟨_, rfl⟩
    obtain ⟨d, hd⟩ : ∃ d : Nat, d = k / len := ⟨_, rfl⟩
    have hql : q < len := by rw [hq]; exact Nat.mod_lt _ hpos
    have hrl : r < len := by rw [hr]; exact Nat.mod_lt _ hpos
    have hdk : d ≤ k := by rw [hd]; exact Nat.div_le_self _ _
    have t1 : ((k : Int)).tmod (len : Int) = (q : Int) := by rw [hq, Int.tmod_eq_emod_of_nonneg (by omega)]; rfl
    have t2 : ((k : Int) + 1).tmod (len : Int) = (r : Int) := by rw [hr, Int.tmod_eq_emod_of_nonneg (by omega)]; rfl
    have t3 : ((k : Int)).tdiv (len : Int) = (d : Int) := by rw [hd, Int.tdiv_eq_ediv_of_nonneg (by omega)]; rfl
    have cq := hcell q hql
    have cr := hcell r hrl
    obtain ⟨x1, x2⟩ := hbnd q hql
    obtain ⟨y1, y2⟩ := hbnd r hrl
    generalize (zs.take len).getD q 0 = x at cq x1 x2
    generalize (zs.take len).getD r 0 = y at cr y1 y2
    have hq1 : (q : Int) < (len : Int) := by omega
    have hr1 : (r : Int) < (len : Int) := by omega
    have w1 : IntKind.i64.wrap ((k : Int) + 1) = (k : Int) + 1 := IntWalk.i64_in _ ⟨by omega, by omega⟩
    have w2 : IntKind.i64.wrap (d : Int) = (d : Int) := IntWalk.i64_in _ ⟨by omega, by omega⟩
    have w3 : IntKind.i64.wrap x = x := IntWalk.i64_in _ ⟨by omega, by omega⟩
    have w4 : IntKind.i64.wrap y = y := IntWalk.i64_in _ ⟨by omega, by omega⟩
    have w5 : IntKind.i64.wrap (x * 31) = x * 31 := IntWalk.i64_in _ ⟨by omega, by omega⟩
    have w6 : IntKind.i64.wrap (x * 31 + y) = x * 31 + y := IntWalk.i64_in _ ⟨by omega, by omega⟩
    have w7 : IntKind.i64.wrap (x * 31 + y + (d : Int)) = x * 31 + y + (d : Int) := IntWalk.i64_in _ ⟨by omega, by omega⟩
    have t4 : (x * 31 + y + (d : Int)).tmod n = (x * 31 + y + (d : Int)) % n := Int.tmod_eq_emod_of_nonneg (by omega)
    have hne : ((len : Int) == 0) = false := by simp; omega
    have hnn : (n == 0) = false := by simp; omega
    have hne' : ¬ (len : Int) = 0 := by omega
    have hnn' : ¬ n = 0 := by omega
    clear hcell hbnd hI hq hr hd hl
    go_enter Try.func11, Try.ntmps11
    go_wp2
    go_quiet (fail)
    go_wp2
    go_ret
    exact ⟨chosen_mk (Int.emod_nonneg (x * 31 + y + (d : Int)) (by omega)) (Int.emod_lt_of_pos (x * 31 + y + (d : Int)) (by omega)), _, rfl⟩
end Go.Proofs.Ytkfaodbkgahgbaa
