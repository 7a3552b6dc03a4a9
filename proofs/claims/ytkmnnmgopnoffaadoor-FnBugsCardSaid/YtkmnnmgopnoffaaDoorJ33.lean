/-
  FnBugs, part 33 of 50 (SmB, Words0).
-/
import Derived.Test.YtkmnnmgopnoffaaDoorJ32
import Derived.Test.YtkmnnmgopnoffaaDoorProg
import Derived.WalkKit
import Derived.WalkSpells
import Derived.WalkLawsBesides
import Derived.LaidLaws
import Derived.ChangeArms
import Derived.Lib.LaidTab

/-
  The laws' sameBugs and hasBug.
-/
namespace Go.Proofs.YtkmnnmgopnoffaaDoor
open Go.RowKit
set_option linter.unusedVariables false
set_option linter.unusedSimpArgs false

set_option maxHeartbeats 2000000 in
set_option maxRecDepth 100000 in
theorem sameBugs_same (a0 a1 : Option Addr) (n c0 c1 : Nat) (xs : List I3) (w : World) (h0 : Instrs w a0 n c0 xs) (h1 : Instrs w a1 n c1 xs) (hn : n ≤ 1000000) :
    Calls Tryd.prog 30 #[.slice a0 n c0, .slice a1 n c1] w fun e w' => e = .returned (.bool true) ∧ Below w.heap.size w w' := by
  have hl := h0.1
  go_enter Tryd.func30, Tryd.ntmps30
  go_wp2_with fail
  go_loopw [5] (fun si wr => ∃ k : Nat, k ≤ n ∧ si = .int .i64 k ∧ Below w.heap.size w wr) (fun si _ => n - (intOf si).toNat)
  case atStart => exact ⟨0, by omega, rfl, Below.refl _ _⟩
  case round =>
    obtain ⟨k, hk, rfl, bw⟩ := hrel
    by_cases hlt : k < n
    · obtain ⟨_, _, _, _, hcase⟩ := h0.below bw
      rcases hcase with e0 | ⟨b, off, rfl, hb, hc⟩
      · omega
      obtain ⟨d0, d1, d2⟩ := hc k hlt
      clear hc hb
      obtain ⟨_, _, _, _, hcase⟩ := h1.below bw
      rcases hcase with e0 | ⟨b', off', rfl, hb, hc⟩
      · omega
      obtain ⟨f0, f1, f2⟩ := hc k hlt
      clear hc hb
      generalize xs.getD k (0, 0, 0) = x at d0 d1 d2 f0 f1 f2
      obtain ⟨x0, x1, x2⟩ := x
      simp only at d0 d1 d2 f0 f1 f2
      have hlt' : (k : Int) < (n : Int) := by omega
      have hk0 : (0 : Int) ≤ (k : Int) := by omega
      have q0 : (x0 == x0) = true := by simp
      have q1 : (x1 == x1) = true := by simp
      have q2 : (x2 == x2) = true := by simp
      go_wp2_with fail
      go_quiet (fail)
      have bwd := below_drewN bw nq
      generalize wr.drewN nq = U at *
      clear d0 d1 d2 f0 f1 f2 bw q0 q1 q2
      go_wp2
      go_roundw
      case rel => exact ⟨k + 1, by omega, by go_num, bwd⟩
      case measure => simp [intOf]; omega
    · obtain rfl : k = n := by omega
      go_wp2
      go_ret
      exact ⟨rfl, bw⟩

/-- Is a bug in a list. -/
def hasB : List I3 → I3 → Bool
  | [], _ => false
  | y :: l, x => decide (y = x) || hasB l x
theorem hasB_iff {x : I3} : ∀ {l : List I3}, hasB l x = true ↔ x ∈ l
  | [] => by simp [hasB]
  | y :: l => by
    have h := hasB_iff (x := x) (l := l)
    show (decide (y = x) || hasB l x) = true ↔ _
    rw [Bool.or_eq_true, h, List.mem_cons, decide_eq_true_iff]
    exact or_congr ⟨Eq.symm, Eq.symm⟩ Iff.rfl
theorem hasB_step {xs : List I3} {k : Nat} (hk : k < xs.length) (y : I3) : hasB (xs.drop k) y = (decide (xs.getD k (0, 0, 0) = y) || hasB (xs.drop (k + 1)) y) := by
  rw [List.drop_eq_getElem_cons hk]
  simp [hasB, List.getD, List.getElem?_eq_getElem hk]

set_option maxHeartbeats 4000000 in
set_option maxRecDepth 100000 in
theorem hasBug_is (a : Option Addr) (n cap : Nat) (xs : List I3) (y : I3) (w : World) (h : Instrs w a n cap xs) (hn : n ≤ 1000000) :
    Calls Tryd.prog 34 #[.slice a n cap, y.val] w fun e w' => e = .returned (.bool (hasB xs y)) ∧ Below w.heap.size w w' := by
  have hl := h.1
  obtain ⟨r, hr⟩ : ∃ r, r = hasB xs y := ⟨_, rfl⟩
  rw [← hr]
  have HR : Hid (r = hasB (xs.drop 0) y) := by rw [Hid]; simpa using hr
  clear hr
  obtain ⟨y0, y1, y2⟩ := y
  unfold I3.val
  simp only
  have bw0 : Below w.heap.size w (w.alloc (.cells #[.int .i64 y0, .int .i64 y1, .int .i64 y2] 54)) := by go_grown
  have c0 : (w.alloc (.cells #[.int .i64 y0, .int .i64 y1, .int .i64 y2] 54)).cell? ⟨w.heap.size, 0, none⟩ = some (.int .i64 y0) := by simp [go_sem]
  have c1 : (w.alloc (.cells #[.int .i64 y0, .int .i64 y1, .int .i64 y2] 54)).cell? ⟨w.heap.size, 1, none⟩ = some (.int .i64 y1) := by simp [go_sem]
  have c2 : (w.alloc (.cells #[.int .i64 y0, .int .i64 y1, .int .i64 y2] 54)).cell? ⟨w.heap.size, 2, none⟩ = some (.int .i64 y2) := by simp [go_sem]
  go_enter Tryd.func34, Tryd.ntmps34
  go_wp2_with fail
  generalize w.alloc (.cells #[.int .i64 y0, .int .i64 y1, .int .i64 y2] 54) = W0 at *
  go_loopw [5] (fun si wr => ∃ k : Nat, k ≤ n ∧ si = .int .i64 k ∧ Hid (r = hasB (xs.drop k) (y0, y1, y2)) ∧ Below w.heap.size w wr ∧ wr.cell? ⟨w.heap.size, 0, none⟩ = some (.int .i64 y0) ∧ wr.cell? ⟨w.heap.size, 1, none⟩ = some (.int .i64 y1) ∧ wr.cell? ⟨w.heap.size, 2, none⟩ = some (.int .i64 y2)) (fun si _ => n - (intOf si).toNat)
  case atStart => exact ⟨0, by omega, rfl, HR, bw0, c0, c1, c2⟩
  case round =>
    clear HR bw0 c0 c1 c2
    obtain ⟨k, hk, rfl, HR, bw, c0, c1, c2⟩ := hrel
    by_cases hlt : k < n
    · obtain ⟨_, _, _, _, hcase⟩ := h.below bw
      rcases hcase with e0 | ⟨b, off, rfl, hb, hc⟩
      · omega
      obtain ⟨d0, d1, d2⟩ := hc k hlt
      clear hc hb
      have hst := hasB_step (xs := xs) (k := k) (by omega) (y0, y1, y2)
      generalize xs.getD k (0, 0, 0) = x at d0 d1 d2 hst
      have HS : Hid (hasB (xs.drop k) (y0, y1, y2) = (decide (x = (y0, y1, y2)) || hasB (xs.drop (k + 1)) (y0, y1, y2))) := hst
      clear hst
      have hlt' : (k : Int) < (n : Int) := by omega
      have hk0 : (0 : Int) ≤ (k : Int) := by omega
      obtain ⟨x0, x1, x2⟩ := x
      simp only at d0 d1 d2
      by_cases hE : (x0, x1, x2) = (y0, y1, y2)
      · cases hE
        have HF : Hid (r = true) := by rw [Hid, HR.out, HS.out]; simp
        clear HS HR
        have q0 : (y0 == y0) = true := by simp
        have q1 : (y1 == y1) = true := by simp
        have q2 : (y2 == y2) = true := by simp
        go_wp2_with fail
        go_quiet (fail)
        have bwd := below_drewN bw nq
        generalize wr.drewN nq = U at *
        clear d0 d1 d2 c0 c1 c2 bw q0 q1 q2
        go_wp2
        go_ret
        exact ⟨by rw [HF.out]; rfl, bwd⟩
      · have HF : Hid (r = hasB (xs.drop (k + 1)) (y0, y1, y2)) := by rw [Hid, HR.out, HS.out]; simp only [hE, decide_false, Bool.false_or]
        clear HS HR
        have h3 : x0 ≠ y0 ∨ (x0 = y0 ∧ x1 ≠ y1) ∨ (x0 = y0 ∧ x1 = y1 ∧ x2 ≠ y2) := by
          by_cases q0 : x0 = y0
          · by_cases q1 : x1 = y1
            · refine .inr (.inr ⟨q0, q1, fun q2 => hE ?_⟩)
              rw [q0, q1, q2]
            · exact .inr (.inl ⟨q0, q1⟩)
          · exact .inl q0
        clear hE
        go_wp2_with fail
        rcases h3 with t0 | ⟨rfl, t1⟩ | ⟨rfl, rfl, t2⟩
        · have t0' : (x0 == y0) = false := by simp [t0]
          go_quiet (fail)
          have bwd := below_drewN bw nq
          replace c0 : (wr.drewN nq).cell? ⟨w.heap.size, 0, none⟩ = some (.int .i64 y0) := c0
          replace c1 : (wr.drewN nq).cell? ⟨w.heap.size, 1, none⟩ = some (.int .i64 y1) := c1
          replace c2 : (wr.drewN nq).cell? ⟨w.heap.size, 2, none⟩ = some (.int .i64 y2) := c2
          generalize wr.drewN nq = U at *
          clear d0 d1 d2 bw t0 t0'
          go_wp2
          go_roundw
          case rel => exact ⟨k + 1, by omega, by go_num, HF, bwd, c0, c1, c2⟩
          case measure => simp [intOf]; omega
        · have q0 : (x0 == x0) = true := by simp
          have t1' : (x1 == y1) = false := by simp [t1]
          go_quiet (fail)
          have bwd := below_drewN bw nq
          replace c0 : (wr.drewN nq).cell? ⟨w.heap.size, 0, none⟩ = some (.int .i64 x0) := c0
          replace c1 : (wr.drewN nq).cell? ⟨w.heap.size, 1, none⟩ = some (.int .i64 y1) := c1
          replace c2 : (wr.drewN nq).cell? ⟨w.heap.size, 2, none⟩ = some (.int .i64 y2) := c2
          generalize wr.drewN nq = U at *
          clear d0 d1 d2 bw q0 t1 t1'
          go_wp2
          go_roundw
          case rel => exact ⟨k + 1, by omega, by go_num, HF, bwd, c0, c1, c2⟩
          case measure => simp [intOf]; omega
        · have q0 : (x0 == x0) = true := by simp
          have q1 : (x1 == x1) = true := by simp
          have t2' : (x2 == y2) = false := by simp [t2]
          go_quiet (fail)
          have bwd := below_drewN bw nq
          replace c0 : (wr.drewN nq).cell? ⟨w.heap.size, 0, none⟩ = some (.int .i64 x0) := c0
          replace c1 : (wr.drewN nq).cell? ⟨w.heap.size, 1, none⟩ = some (.int .i64 x1) := c1
          replace c2 : (wr.drewN nq).cell? ⟨w.heap.size, 2, none⟩ = some (.int .i64 y2) := c2
          generalize wr.drewN nq = U at *
          clear d0 d1 d2 bw q0 q1 t2 t2'
          go_wp2
          go_roundw
          case rel => exact ⟨k + 1, by omega, by go_num, HF, bwd, c0, c1, c2⟩
          case measure => simp [intOf]; omega
    · obtain rfl : k = n := by omega
      have HF : Hid (r = false) := by rw [Hid, HR.out, List.drop_of_length_le (by omega)]; rfl
      clear HR c0 c1 c2
      go_wp2
      go_ret
      exact ⟨by rw [HF.out]; rfl, bw⟩
end Go.Proofs.YtkmnnmgopnoffaaDoor


/-
  A laid array of texts, cell for cell.
-/
namespace Go.Proofs.YtkmnnmgopnoffaaDoor
open Go.RowKit

/-- AN ARRAY OF TEXTS THAT READS AS THE TABLE HOLDS THE TABLE's TEXTS, CELL FOR CELL. -/
theorem cells_of_strs {H : Type} {enc : TypeId × Value → H} {P : Program} {w : World} {base : Nat} {sp : Nat → Bool} {held : Bool} {fuel : Nat} {t e : TypeId} {n : Nat} {cs : List Value} {zs : List (List UInt8)} {p : List MemPlace}
    (ht : P.underlying t = some (.array n e)) (he : P.underlying e = some .string) (hce : P.cellsOf e = 1) (hct : P.cellsOf t = n)
    (h : DataW.trod enc P w base sp held fuel t cs = some (.agg (zs.map fun z => .lit (.string z)), p)) : cs = zs.map fun z => Value.string ⟨z.toArray⟩ := by
  cases fuel with
  | zero => simp [DataW.trod] at h
  | succ fuel =>
    simp only [DataW.trod, ht, hce, hct, Nat.mul_one] at h
    split at h
    · rename_i hl
      obtain ⟨xs, hm, hx⟩ := Option.map_eq_some_iff.1 h
      have hxs : xs.map (·.1) = zs.map fun z => (DataW.lit (.string z) : DataW H) := by
        have := congrArg Prod.fst hx
        simpa using this
      have hxl : xs.length = n := by simpa using Lib.mapM_length hm
      have hzl : zs.length = n := by
        have := congrArg List.length hxs
        simp at this
        omega
      apply List.ext_getElem?
      intro i
      by_cases hi : i < n
      · obtain ⟨b, hb, hf⟩ := Lib.mapM_at hm i i (by simp [hi])
        obtain ⟨s, hc, rfl, _⟩ := DataW.trod_string he hf
        have h1 : cs[i]? = some (.string s) := by
          have := congrArg (·[0]?) hc
          simpa [List.getElem?_take, List.getElem?_drop] using this
        have h2 : (xs.map (·.1))[i]? = some (DataW.lit (.string s.data.toList) : DataW H) := by simp [hb]
        rw [hxs] at h2
        simp only [List.getElem?_map, Option.map_eq_some_iff, DataW.lit.injEq, Lit.string.injEq] at h2
        obtain ⟨z', hz', hz2⟩ := h2
        have hs : s = ⟨z'.toArray⟩ := by
          apply ByteArray.ext
          simp [hz2]
        simp [h1, hz', hs]
      · rw [List.getElem?_eq_none (by omega), List.getElem?_eq_none (by simp; omega)]
    · cases h
end Go.Proofs.YtkmnnmgopnoffaaDoor
