
/-
  Versions: what stands at a place; the program's siteOf, sameSite, the specification's l09At, l09Alike; both sides' InstrAt.
-/
import Derived.Test.YtleiogcohkfgkaaCodeI
import Derived.Test.YtleiogcohkfgkaaCodeS
import Derived.Test.YtleiogcohkfgkaaItmI
import Derived.Test.YtleiogcohkfgkaaProg4
import Derived.Test.YtleiogcohkfgkaaMach0
import Derived.Test.YtleiogcohkfgkaaKit8
namespace Go.Proofs.Ytleiogcohkfgkaa
open Go.RowKit
set_option linter.unusedVariables false
set_option linter.unusedSimpArgs false

/-- What is at a place. -/
def atM9 (rows : List (List I3)) (k pc : Nat) : Option I3 := (rows.getD k [])[pc]?
/-- .. as an instruction; nothing is all noughts. -/
def insO9 (o : Option I3) : I3 := o.getD (0, 0, 0)
/-- .. as the program keeps it. -/
def siteV9 : Option I3 → Value
  | some x => .iface 39 x.val
  | none => .iface 84 (.agg #[])

theorem at9_some {rows : List (List I3)} {k pc : Nat} (h : pc < (rows.getD k []).length) : atM9 rows k pc = some ((rows.getD k []).getD pc (0, 0, 0)) := by
  unfold atM9
  generalize rows.getD k [] = r at *
  rw [List.getD, List.getElem?_eq_getElem h]
  rfl
theorem at9_none {rows : List (List I3)} {k pc : Nat} (h : ¬ pc < (rows.getD k []).length) : atM9 rows k pc = none := List.getElem?_eq_none (by omega)

/-- A row of a program, and where it lies. -/
theorem codes_row9 {w : World} {a : Option Addr} {len cap : Nat} {rows : List (List I3)} (h : Codes w a len cap rows) {k : Nat} (hk : k < len) :
    ∃ b off a' l' c', a = some ⟨b, off, none⟩ ∧ w.cell? ⟨b, off + k, none⟩ = some (.slice a' l' c') ∧ Instrs w a' l' c' (rows.getD k []) := by
  obtain ⟨_, _, _, hc⟩ := h
  rcases hc with h0 | ⟨b, off, ha, _, hc⟩
  · omega
  · obtain ⟨a', l', c', h1, h2⟩ := hc k hk
    exact ⟨b, off, a', l', c', ha, h1, h2⟩
theorem instrs_at9 {w : World} {a : Option Addr} {l c : Nat} {xs : List I3} (h : Instrs w a l c xs) {j : Nat} (hj : j < l) :
    ∃ b off, a = some ⟨b, off, none⟩ ∧ w.cell? ⟨b, off + j * 3, none⟩ = some (.int .i64 (xs.getD j (0, 0, 0)).1) ∧ w.cell? ⟨b, off + j * 3 + 1, none⟩ = some (.int .i64 (xs.getD j (0, 0, 0)).2.1) ∧ w.cell? ⟨b, off + j * 3 + 2, none⟩ = some (.int .i64 (xs.getD j (0, 0, 0)).2.2) := by
  obtain ⟨_, _, _, _, hc⟩ := h
  rcases hc with h0 | ⟨b, off, ha, _, hc⟩
  · omega
  · exact ⟨b, off, ha, hc j hj⟩

set_option maxHeartbeats 1000000 in
set_option maxRecDepth 100000 in
theorem siteOf_is {w : World} {a : Option Addr} {cap : Nat} {rows : List (List I3)} (h : Codes w a 3 cap rows) {k pc : Nat} (hk : k < 3) (hp : pc < 7) :
    Calls Try.prog 33 #[.agg #[.slice a 3 cap], .int .i64 k, .int .i64 pc] w fun e w' => e = .returned (siteV9 (atM9 rows k pc)) ∧ Below w.heap.size w w' := by
  obtain ⟨b, off, a', l', c', rfl, r0, hI⟩ := codes_row9 h (hk)
  have hl := hI.1
  have hk2 : (k : Int) < 3 := by omega
  have hk0 : (0 : Int) ≤ (k : Int) := by omega
  have bw : Below w.heap.size w (w.alloc (.cells #[.slice (some ⟨b, off, none⟩) 3 cap] 31)) := by go_grown
  have g0 : (w.alloc (.cells #[.slice (some ⟨b, off, none⟩) 3 cap] 31)).cell? ⟨w.heap.size, 0, none⟩ = some (.slice (some ⟨b, off, none⟩) 3 cap) := by first | (simp [go_sem]; done) | (simp [World.cell?]; done)
  replace r0 := cells_kept bw _ _ r0
  by_cases hlt : pc < l'
  · rw [at9_some (by omega)]
    obtain ⟨b2, o2, rfl, q0, q1, q2⟩ := instrs_at9 hI hlt
    generalize (rows.getD k []).getD pc (0, 0, 0) = x at *
    obtain ⟨x0, x1, x2⟩ := x
    simp only [siteV9, I3.val] at *
    replace q0 := cells_kept bw _ _ q0
    replace q1 := cells_kept bw _ _ q1
    replace q2 := cells_kept bw _ _ q2
    have hlt2 : (pc : Int) < (l' : Int) := by omega
    have hp0 : (0 : Int) ≤ (pc : Int) := by omega
    clear h hI
    go_enter Try.func33, Try.ntmps33
    go_wp2_with fail
    generalize (w.alloc (.cells #[.slice (some ⟨b, off, none⟩) 3 cap] 31)) = W at *
    go_wp2
    go_ret
    exact ⟨rfl, bw⟩
  · rw [at9_none (by omega)]
    simp only [siteV9]
    have hlt2 : decide ((pc : Int) < (l' : Int)) = false := by simp; omega
    clear h hI
    go_enter Try.func33, Try.ntmps33
    go_wp2_with fail
    generalize (w.alloc (.cells #[.slice (some ⟨b, off, none⟩) 3 cap] 31)) = W at *
    go_wp2
    go_ret
    exact ⟨rfl, bw⟩

theorem ta_ins9 (v : Value) (w : World) : (Instr.typeAssert (.iface 39 v) 56 39 true).run Try.prog w = .ok (.tuple #[v, .bool true]) w := by kernel_rfl
theorem ta_non9 (v : Value) (w : World) : (Instr.typeAssert (.iface 84 v) 56 39 true).run Try.prog w = .ok (.tuple #[.agg #[.int .i64 0, .int .i64 0, .int .i64 0], .bool false]) w := by kernel_rfl

set_option maxHeartbeats 2000000 in
set_option maxRecDepth 100000 in
theorem sameSite_is (a b : Option I3) (w : World) :
    Calls Try.prog 44 #[siteV9 a, siteV9 b] w fun e w' => e = .returned (.bool (decide (a = b))) ∧ Below w.heap.size w w' := by
  have t1 := ta_ins9
  have t2 := ta_non9
  cases a with
  | none =>
    cases b with
    | none =>
      simp only [siteV9]
      go_enter Try.func44, Try.ntmps44
      go_wp2
      go_ret
      exact ⟨by simp, by go_grown⟩
    | some y =>
      obtain ⟨y0, y1, y2⟩ := y
      simp only [siteV9, I3.val]
      go_enter Try.func44, Try.ntmps44
      go_wp2
      go_ret
      exact ⟨by simp, by go_grown⟩
  | some x =>
    obtain ⟨x0, x1, x2⟩ := x
    cases b with
    | none =>
      simp only [siteV9, I3.val]
      go_enter Try.func44, Try.ntmps44
      go_wp2
      go_ret
      exact ⟨by simp, by go_grown⟩
    | some y =>
      obtain ⟨y0, y1, y2⟩ := y
      simp only [siteV9, I3.val]
      go_enter Try.func44, Try.ntmps44
      go_wp2
      all_goals (go_ret; exact ⟨by simp_all, by go_grown⟩)
end Go.Proofs.Ytleiogcohkfgkaa
