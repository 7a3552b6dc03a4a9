
/-
  The specification's l09At, l09Alike.
-/
import Derived.Test.YtleiogcohkfgkaaVerI
namespace Go.Proofs.Ytleiogcohkfgkaa
open Go.RowKit
set_option linter.unusedVariables false
set_option linter.unusedSimpArgs false

set_option maxHeartbeats 2000000 in
set_option maxRecDepth 100000 in
theorem l09At_is {w : World} {a : Option Addr} {cap : Nat} {rows : List (List I3)} (h : Codes w a 3 cap rows) {k pc : Nat} (hk : k < 3) (hp : pc < 7) {n : Int} (hn : n = 8 * (k : Int) + (pc : Int)) :
    Calls Try.prog 30 #[.agg #[.slice a 3 cap], .int .i64 n] w fun e w' => e = .returned (.tuple #[(insO9 (atM9 rows k pc)).val, .bool (atM9 rows k pc).isSome]) ∧ Below w.heap.size w w' := by
  obtain ⟨b, off, a', l', c', rfl, r0, hI⟩ := codes_row9 h hk
  have hl := hI.1
  have e1 : n.tdiv 8 = (k : Int) := by rw [Int.tdiv_eq_ediv_of_nonneg (by omega)]; omega
  have e2 : n.tmod 8 = (pc : Int) := by rw [Int.tmod_eq_emod_of_nonneg (by omega)]; omega
  have u1 : IntKind.i64.wrap (k : Int) = k := by rw [IntKind.wrap_i64]; omega
  have u2 : IntKind.i64.wrap (pc : Int) = pc := by rw [IntKind.wrap_i64]; omega
  clear hn
  have hk2 : (k : Int) < 3 := by omega
  have hk0 : (0 : Int) ≤ (k : Int) := by omega
  have bw : Below w.heap.size w ((w.alloc (.cells #[.slice (some ⟨b, off, none⟩) 3 cap] 31)).alloc (.cells #[.int .i64 0, .int .i64 0, .int .i64 0] 39)) := by go_grown
  have g0 : ((w.alloc (.cells #[.slice (some ⟨b, off, none⟩) 3 cap] 31)).alloc (.cells #[.int .i64 0, .int .i64 0, .int .i64 0] 39)).cell? ⟨w.heap.size, 0, none⟩ = some (.slice (some ⟨b, off, none⟩) 3 cap) := by first | (simp [go_sem]; done) | (simp [World.cell?]; done)
  replace r0 := cells_kept bw _ _ r0
  by_cases hlt : pc < l'
  · rw [at9_some (by omega)]
    obtain ⟨b2, o2, rfl, q0, q1, q2⟩ := instrs_at9 hI hlt
    generalize (rows.getD k []).getD pc (0, 0, 0) = x at *
    obtain ⟨x0, x1, x2⟩ := x
    simp only [insO9, I3.val, Option.getD_some, Option.isSome_some] at *
    replace q0 := cells_kept bw _ _ q0
    replace q1 := cells_kept bw _ _ q1
    replace q2 := cells_kept bw _ _ q2
    have hlt2 : (pc : Int) < (l' : Int) := by omega
    have hp0 : (0 : Int) ≤ (pc : Int) := by omega
    clear h hI
    go_enter Try.func30, Try.ntmps30
    go_wp2
    go_returns
    exact ⟨rfl, by go_grown⟩
  · rw [at9_none (by omega)]
    simp only [insO9, I3.val, Option.getD_none, Option.isSome_none]
    have hlt2 : (l' : Int) ≤ (pc : Int) := by omega
    clear h hI
    go_enter Try.func30, Try.ntmps30
    go_wp2
    go_returns
    exact ⟨rfl, by go_grown⟩

theorem some_eq9 {x y : I3} (h1 : x.1 = y.1) (h2 : x.2.1 = y.2.1) (h3 : x.2.2 = y.2.2) : x = y := Prod.ext h1 (Prod.ext h2 h3)
/-- Nothing is all noughts and not there: both together tell what is there. -/
theorem alike9 (o p : Option I3) : decide (o = p) = (decide (o.isSome = p.isSome) && decide (insO9 o = insO9 p)) := by
  rw [Bool.eq_iff_iff, Bool.and_eq_true, decide_eq_true_iff, decide_eq_true_iff, decide_eq_true_iff]
  cases o <;> cases p <;> simp [insO9]

set_option maxHeartbeats 2000000 in
set_option maxRecDepth 100000 in
theorem l09Alike_is {w : World} {a : Option Addr} {cap : Nat} {rows : List (List I3)} (h : Codes w a 3 cap rows) {a' : Option Addr} {cap' : Nat} {rows' : List (List I3)} (h' : Codes w a' 3 cap' rows') {k pc : Nat} (hk : k < 3) (hp : pc < 7) {n : Int} (hn : n = 8 * (k : Int) + (pc : Int)) :
    Calls Try.prog 41 #[.agg #[.slice a 3 cap], .agg #[.slice a' 3 cap'], .int .i64 n] w fun e w' => e = .returned (.bool (decide (atM9 rows k pc = atM9 rows' k pc))) ∧ Below w.heap.size w w' := by
  have kA := fun W (hb : Below w.heap.size w W) => l09At_is (h.below hb) hk hp hn
  have kB := fun W (hb : Below w.heap.size w W) => l09At_is (h'.below hb) hk hp hn
  have bw : Below w.heap.size w ((w.alloc (.cells #[.slice a 3 cap] 31)).alloc (.cells #[.slice a' 3 cap'] 31)) := by go_grown
  have g0 : ((w.alloc (.cells #[.slice a 3 cap] 31)).alloc (.cells #[.slice a' 3 cap'] 31)).cell? ⟨w.heap.size, 0, none⟩ = some (.slice a 3 cap) := by first | (simp [go_sem]; done) | (simp [World.cell?]; done)
  have g1 : ((w.alloc (.cells #[.slice a 3 cap] 31)).alloc (.cells #[.slice a' 3 cap'] 31)).cell? ⟨w.heap.size + 1, 0, none⟩ = some (.slice a' 3 cap') := by first | (simp [go_sem]; done) | (simp [World.cell?]; done)
  rw [alike9]
  generalize atM9 rows k pc = o at *
  generalize atM9 rows' k pc = p at *
  generalize o.isSome = so at *
  generalize p.isSome = sp at *
  generalize insO9 o = x at *
  generalize insO9 p = y at *
  obtain ⟨x0, x1, x2⟩ := x
  obtain ⟨y0, y1, y2⟩ := y
  simp only [I3.val] at kA kB
  clear h h' hn
  go_enter Try.func41, Try.ntmps41
  go_wp2_with fail
  refine (kA _ bw).mono ?_
  rintro e w1 ⟨rfl, hb⟩
  replace bw := bel8 bw hb
  replace g1 := cells_kept hb _ _ g1
  clear hb g0
  have bx : Below w1.heap.size w1 (w1.alloc (.cells #[.int .i64 x0, .int .i64 x1, .int .i64 x2] 39)) := by go_grown
  have pX : Blk (w1.alloc (.cells #[.int .i64 x0, .int .i64 x1, .int .i64 x2] 39)) w1.heap.size 39 [.int .i64 x0, .int .i64 x1, .int .i64 x2] := Blk.new w1 39 [.int .i64 x0, .int .i64 x1, .int .i64 x2]
  replace bw := bel8 bw bx
  replace g1 := cells_kept bx _ _ g1
  clear bx
  go_wp2_with fail
  refine (kB _ bw).mono ?_
  rintro e w2 ⟨rfl, hb⟩
  replace bw := bel8 bw hb
  replace pX := pX.below hb
  clear hb g1 kA kB
  generalize w1.heap.size = X at *
  have bx : Below w2.heap.size w2 (w2.alloc (.cells #[.int .i64 y0, .int .i64 y1, .int .i64 y2] 39)) := by go_grown
  have pY : Blk (w2.alloc (.cells #[.int .i64 y0, .int .i64 y1, .int .i64 y2] 39)) w2.heap.size 39 [.int .i64 y0, .int .i64 y1, .int .i64 y2] := Blk.new w2 39 [.int .i64 y0, .int .i64 y1, .int .i64 y2]
  replace bw := bel8 bw bx
  replace pX := pX.below bx
  clear bx
  have u0 := pX.cell 0
  have u1 := pX.cell 1
  have u2 := pX.cell 2
  have v0 := pY.cell 0
  have v1 := pY.cell 1
  have v2 := pY.cell 2
  simp only [List.getElem?_cons_zero, List.getElem?_cons_succ] at u0 u1 u2 v0 v1 v2
  clear pX pY
  cases so <;> cases sp
  all_goals
    go_wp2
    all_goals (go_ret; exact ⟨by simp_all, bw⟩)
end Go.Proofs.Ytleiogcohkfgkaa
