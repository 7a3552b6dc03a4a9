
/-
  The machine in plain words: who is done, who waits, who can go on, one step; a machine's eighteen cells; a block that is known whole.
-/
import Derived.Test.YtleiogcohkfgkaaVm4
import Derived.Test.YtleiogcohkfgkaaCodeI
namespace Go.Proofs.Ytleiogcohkfgkaa
open Go.RowKit

def codeM (rows : List (List I3)) (k : Nat) : List I3 := rows.getD k []
/-- A thread stands at its code's end, or behind it. -/
def doneM (rows : List (List I3)) (m : V4) (k : Nat) : Bool := decide (((codeM rows k).length : Int) ≤ m.1.getD k 0)
/-- The instruction at which a thread stands. -/
def insM (rows : List (List I3)) (m : V4) (k : Nat) : I3 := (codeM rows k).getD (m.1.getD k 0).toNat (0, 0, 0)
/-- At a lock that somebody has. -/
def atLock (m : V4) (x : I3) : Bool := decide (x.1 = 5) && !decide (m.2.2.1.getD x.2.1.toNat 0 = 0)
def waitM (rows : List (List I3)) (m : V4) (k : Nat) : Bool := !doneM rows m k && atLock m (insM rows m k)
def canM (rows : List (List I3)) (m : V4) (k : Nat) : Bool := !doneM rows m k && !atLock m (insM rows m k)
/-- Those of the first k threads that can. -/
def enabM (rows : List (List I3)) (m : V4) : Nat → List Int
  | 0 => []
  | k + 1 => if canM rows m k then enabM rows m k ++ [(k : Int)] else enabM rows m k
/-- Some thread from k on is not done. -/
def leftM (rows : List (List I3)) (m : V4) (k : Nat) : Bool := (List.range' k (3 - k)).any fun i => !doneM rows m i
def stuckM (rows : List (List I3)) (m : V4) : Bool := decide (enabM rows m 3 = []) && leftM rows m 0
/-- One step of thread k: the state behind it, and what it found. -/
def stepM (m : V4) (x : I3) (k : Nat) : V4 × Int :=
  if x.1 = 1 then ((m.1.set k (m.1.getD k 0 + 1), m.2.1, m.2.2.1, m.2.2.2.set (k * 2 + x.2.1.toNat) (m.2.1.getD x.2.2.toNat 0)), 0)
  else if x.1 = 2 then ((m.1.set k (m.1.getD k 0 + 1), m.2.1.set x.2.1.toNat (m.2.2.2.getD (k * 2 + x.2.2.toNat) 0), m.2.2.1, m.2.2.2), 0)
  else if x.1 = 3 then ((m.1.set k (m.1.getD k 0 + 1), m.2.1, m.2.2.1, m.2.2.2.set (k * 2 + x.2.1.toNat) x.2.2), 0)
  else if x.1 = 4 then ((m.1.set k (m.1.getD k 0 + 1), m.2.1, m.2.2.1, m.2.2.2.set (k * 2 + x.2.1.toNat) ((m.2.2.2.getD (k * 2 + x.2.1.toNat) 0 + x.2.2) % 10)), 0)
  else if x.1 = 5 then ((m.1.set k (m.1.getD k 0 + 1), m.2.1, m.2.2.1.set x.2.1.toNat (k + 1), m.2.2.2), 0)
  else if x.1 = 6 then
    if m.2.2.1.getD x.2.1.toNat 0 = k + 1 then ((m.1.set k (m.1.getD k 0 + 1), m.2.1, m.2.2.1.set x.2.1.toNat 0, m.2.2.2), 0)
    else ((m.1.set k (m.1.getD k 0 + 1), m.2.1, m.2.2.1, m.2.2.2), 13)
  else if x.1 = 7 then
    if m.2.2.2.getD (k * 2 + x.2.1.toNat) 0 = 0 then ((m.1.set k (m.1.getD k 0 + 1), m.2.1, m.2.2.1, m.2.2.2), 0)
    else ((m.1.set k x.2.2, m.2.1, m.2.2.1, m.2.2.2), 0)
  else if m.2.2.2.getD (k * 2 + x.2.1.toNat) 0 = x.2.2 then ((m.1.set k (m.1.getD k 0 + 1), m.2.1, m.2.2.1, m.2.2.2), 0)
  else ((m.1.set k (m.1.getD k 0 + 1), m.2.1, m.2.2.1, m.2.2.2), 12)

theorem leftM_step (rows : List (List I3)) (m : V4) {k : Nat} (hk : k < 3) : leftM rows m k = (!doneM rows m k || leftM rows m (k + 1)) := by
  unfold leftM
  obtain ⟨n, hn⟩ : ∃ n, 3 - k = n + 1 := ⟨3 - k - 1, by omega⟩
  have hn' : 3 - (k + 1) = n := by omega
  rw [hn, hn', List.range'_succ, List.any_cons]
theorem leftM_end (rows : List (List I3)) (m : V4) : leftM rows m 3 = false := rfl

/-- A state that has its shape, number by number. -/
theorem shape_lists {m : V4} (h : shapeOk m = true) : ∃ p0 p1 p2 v0 v1 v2 v3 h0 h1 x0 y0 x1 y1 x2 y2 : Int, m = ([p0, p1, p2], [v0, v1, v2, v3], [h0, h1], [x0, y0, x1, y1, x2, y2]) := by
  obtain ⟨l0, l1, l2, l3, _⟩ := shape_parts h
  obtain ⟨a, b, c, d⟩ := m
  simp only at l0 l1 l2 l3
  match a, b, c, d, l0, l1, l2, l3 with
  | [p0, p1, p2], [v0, v1, v2, v3], [h0, h1], [x0, y0, x1, y1, x2, y2], _, _, _, _ => exact ⟨p0, p1, p2, v0, v1, v2, v3, h0, h1, x0, y0, x1, y1, x2, y2, rfl⟩
theorem shape_bounds {m : V4} (h : shapeOk m = true) : (∀ z ∈ m.1, 0 ≤ z ∧ z ≤ 6) ∧ (∀ z ∈ m.2.1, 0 ≤ z ∧ z ≤ 9) ∧ (∀ z ∈ m.2.2.1, 0 ≤ z ∧ z ≤ 3) ∧ ∀ z ∈ m.2.2.2, 0 ≤ z ∧ z ≤ 9 := by
  unfold shapeOk at h
  simp only [Bool.and_eq_true] at h
  exact ⟨(allIn_parts h.1).2, (allIn_parts h.2.1).2, (allIn_parts h.2.2.1).2, (allIn_parts h.2.2.2).2⟩
theorem getD_in {zs : List Int} {lo hi : Int} (h : ∀ z ∈ zs, lo ≤ z ∧ z ≤ hi) (h0 : lo ≤ 0 ∧ 0 ≤ hi) (k : Nat) : lo ≤ zs.getD k 0 ∧ zs.getD k 0 ≤ hi := by
  rcases Nat.lt_or_ge k zs.length with hk | hk
  · simp only [List.getD, List.getElem?_eq_getElem hk, Option.getD_some]
    exact h _ (List.getElem_mem hk)
  · simp [List.getD, List.getElem?_eq_none hk, h0]

/-- A machine's cells: of each thread its code, its place, its two registers; shared places; locks. -/
def machCells (c0 c1 c2 : Value) (m : V4) : List Value :=
  [c0, .int .i64 (m.1.getD 0 0), .int .i64 (m.2.2.2.getD 0 0), .int .i64 (m.2.2.2.getD 1 0),
   c1, .int .i64 (m.1.getD 1 0), .int .i64 (m.2.2.2.getD 2 0), .int .i64 (m.2.2.2.getD 3 0),
   c2, .int .i64 (m.1.getD 2 0), .int .i64 (m.2.2.2.getD 4 0), .int .i64 (m.2.2.2.getD 5 0),
   .int .i64 (m.2.1.getD 0 0), .int .i64 (m.2.1.getD 1 0), .int .i64 (m.2.1.getD 2 0), .int .i64 (m.2.1.getD 3 0),
   .int .i64 (m.2.2.1.getD 0 0), .int .i64 (m.2.2.1.getD 1 0)]
def codeV (c0 c1 c2 : Value) (k : Nat) : Value := [c0, c1, c2].getD k undef

section
variable (c0 c1 c2 : Value) (m : V4)
theorem mc_code {k : Nat} (hk : k < 3) : (machCells c0 c1 c2 m)[k * 4]? = some (codeV c0 c1 c2 k) := by
  match k, hk with
  | 0, _ => rfl
  | 1, _ => rfl
  | 2, _ => rfl
theorem mc_pc {k : Nat} (hk : k < 3) : (machCells c0 c1 c2 m)[k * 4 + 1]? = some (.int .i64 (m.1.getD k 0)) := by
  match k, hk with
  | 0, _ => rfl
  | 1, _ => rfl
  | 2, _ => rfl
theorem mc_reg {k a : Nat} (hk : k < 3) (ha : a < 2) : (machCells c0 c1 c2 m)[k * 4 + 2 + a]? = some (.int .i64 (m.2.2.2.getD (k * 2 + a) 0)) := by
  match k, hk, a, ha with
  | 0, _, 0, _ => rfl
  | 1, _, 0, _ => rfl
  | 2, _, 0, _ => rfl
  | 0, _, 1, _ => rfl
  | 1, _, 1, _ => rfl
  | 2, _, 1, _ => rfl
theorem mc_var {a : Nat} (ha : a < 4) : (machCells c0 c1 c2 m)[12 + a]? = some (.int .i64 (m.2.1.getD a 0)) := by
  match a, ha with
  | 0, _ => rfl
  | 1, _ => rfl
  | 2, _ => rfl
  | 3, _ => rfl
theorem mc_held {a : Nat} (ha : a < 2) : (machCells c0 c1 c2 m)[16 + a]? = some (.int .i64 (m.2.2.1.getD a 0)) := by
  match a, ha with
  | 0, _ => rfl
  | 1, _ => rfl
end

section
variable (c0 c1 c2 : Value) (m : V4) (h : shapeOk m = true)
include h
theorem ms_pc {k : Nat} (hk : k < 3) (v : Int) : (machCells c0 c1 c2 m).set (k * 4 + 1) (.int .i64 v) = machCells c0 c1 c2 (m.1.set k v, m.2) := by
  obtain ⟨p0, p1, p2, v0, v1, v2, v3, h0, h1, x0, y0, x1, y1, x2, y2, rfl⟩ := shape_lists h
  match k, hk with
  | 0, _ => rfl
  | 1, _ => rfl
  | 2, _ => rfl
theorem ms_reg {k a : Nat} (hk : k < 3) (ha : a < 2) (v : Int) : (machCells c0 c1 c2 m).set (k * 4 + 2 + a) (.int .i64 v) = machCells c0 c1 c2 (m.1, m.2.1, m.2.2.1, m.2.2.2.set (k * 2 + a) v) := by
  obtain ⟨p0, p1, p2, v0, v1, v2, v3, h0, h1, x0, y0, x1, y1, x2, y2, rfl⟩ := shape_lists h
  match k, hk, a, ha with
  | 0, _, 0, _ => rfl
  | 1, _, 0, _ => rfl
  | 2, _, 0, _ => rfl
  | 0, _, 1, _ => rfl
  | 1, _, 1, _ => rfl
  | 2, _, 1, _ => rfl
theorem ms_var {a : Nat} (ha : a < 4) (v : Int) : (machCells c0 c1 c2 m).set (12 + a) (.int .i64 v) = machCells c0 c1 c2 (m.1, m.2.1.set a v, m.2.2.1, m.2.2.2) := by
  obtain ⟨p0, p1, p2, v0, v1, v2, v3, h0, h1, x0, y0, x1, y1, x2, y2, rfl⟩ := shape_lists h
  match a, ha with
  | 0, _ => rfl
  | 1, _ => rfl
  | 2, _ => rfl
  | 3, _ => rfl
theorem ms_held {a : Nat} (ha : a < 2) (v : Int) : (machCells c0 c1 c2 m).set (16 + a) (.int .i64 v) = machCells c0 c1 c2 (m.1, m.2.1, m.2.2.1.set a v, m.2.2.2) := by
  obtain ⟨p0, p1, p2, v0, v1, v2, v3, h0, h1, x0, y0, x1, y1, x2, y2, rfl⟩ := shape_lists h
  match a, ha with
  | 0, _ => rfl
  | 1, _ => rfl
end

/-- A block that is known whole. -/
def Blk (w : World) (g : Nat) (t : TypeId) (cs : List Value) : Prop := w.heap[g]? = some (.cells cs.toArray t (0, 0))
theorem Blk.lt {w : World} {g t : Nat} {cs : List Value} (h : Blk w g t cs) : g < w.heap.size := (Array.getElem?_eq_some_iff.1 h).1
theorem Blk.cell {w : World} {g t : Nat} {cs : List Value} (h : Blk w g t cs) (i : Nat) : w.cell? ⟨g, i, none⟩ = cs[i]? := by
  unfold Blk at h
  simp [World.cell?, h]
theorem Blk.frozen {w : World} {g t : Nat} {cs : List Value} (h : Blk w g t cs) (i : Nat) : w.frozen? ⟨g, i, none⟩ = false := by
  unfold Blk at h
  simp [World.frozen?, h]
theorem Blk.set {w : World} {g t : Nat} {cs : List Value} (h : Blk w g t cs) (i : Nat) (v : Value) : Blk (w.setCell ⟨g, i, none⟩ v) g t (cs.set i v) := by
  have hl := h.lt
  unfold Blk at h ⊢
  simp [World.setCell, Array.getElem?_modify, h]
theorem Blk.below {w w' : World} {g t : Nat} {cs : List Value} (h : Blk w g t cs) (hb : Below w.heap.size w w') : Blk w' g t cs := (hb.block g h.lt).trans h
theorem Blk.belowB {w w' : World} {g t B : Nat} {cs : List Value} (h : Blk w g t cs) (hb : Below B w w') (hg : g < B) : Blk w' g t cs := (hb.block g hg).trans h
theorem Blk.new (w : World) (t : Nat) (cs : List Value) : Blk (w.alloc (.cells cs.toArray t)) w.heap.size t cs := by
  show (w.heap.push _)[w.heap.size]? = _
  simp
theorem Blk.drew {w : World} {g t : Nat} {cs : List Value} (h : Blk w g t cs) : Blk w.drew g t cs := h
theorem Blk.drewN {w : World} {g t : Nat} {cs : List Value} (h : Blk w g t cs) (d : Nat) : Blk (w.drewN d) g t cs := h
theorem Blk.off {w : World} {g t : Nat} {cs : List Value} (h : Blk w g t cs) (p : Addr) (v : Value) (hp : g ≠ p.block) : Blk (w.setCell p v) g t cs := (Below.heap_setCell w p v g hp).trans h
end Go.Proofs.Ytleiogcohkfgkaa
