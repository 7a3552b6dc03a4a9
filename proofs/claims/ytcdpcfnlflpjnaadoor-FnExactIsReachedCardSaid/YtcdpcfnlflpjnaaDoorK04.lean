/-
  Joined: Vm2, InOK, Ops.
-/
import Derived.Test.YtcdpcfnlflpjnaaDoorProg
import Derived.Deep.RegionHeld3
import Derived.KernelRfl
import Derived.Tactics
import Derived.WalkKit
import Derived.WalkSpells
import Derived.WalkLawsBesides
import Derived.RegionTactic
import Derived.BigQuiet
import Derived.Deep.QuietTactic
import Derived.Deep.Slices
import Derived.Deep.Strs
import Derived.Deep.Fields
import Derived.ChangeSame
import Derived.ChangeSlices
import Derived.Lib.SmallJoins
import Derived.Handy
import Derived.OwnWalk
import Derived.Test.YtcdpcfnlflpjnaaDoorK01
import Derived.Test.YtcdpcfnlflpjnaaDoorK02
import Derived.Test.YtcdpcfnlflpjnaaDoorK03

/-
  A state in memory of its own; toVm: a copy of a state, in memory of its own.
-/
namespace Go.Proofs.YtcdpcfnlflpjnaaDoor
open Go.RowKit

def OwnI (w : World) (B : Nat) (s : Sl) (zs : List Int) : Prop := w.ownsRow B 3 1 (.slice s.1 s.2.1 s.2.2) s.2.1 (zs.map (Value.int .i64))
def Apart (s s' : Sl) : Prop := ∀ g, (Value.slice s.1 s.2.1 s.2.2).ownBlock = some g → (Value.slice s'.1 s'.2.1 s'.2.2).ownBlock ≠ some g
def OwnV (w : World) (B : Nat) (s : S4) (m : V4) : Prop :=
  (OwnI w B s.1 m.1 ∧ OwnI w B s.2.1 m.2.1 ∧ OwnI w B s.2.2.1 m.2.2.1 ∧ OwnI w B s.2.2.2 m.2.2.2) ∧
  Apart s.1 s.2.1 ∧ Apart s.1 s.2.2.1 ∧ Apart s.1 s.2.2.2 ∧ Apart s.2.1 s.2.2.1 ∧ Apart s.2.1 s.2.2.2 ∧ Apart s.2.2.1 s.2.2.2
def V4.fits (m : V4) : Prop := (∀ z ∈ m.1, (Lit.int .i64 z).wf = true) ∧ (∀ z ∈ m.2.1, (Lit.int .i64 z).wf = true) ∧ (∀ z ∈ m.2.2.1, (Lit.int .i64 z).wf = true) ∧ ∀ z ∈ m.2.2.2, (Lit.int .i64 z).wf = true
theorem OwnI.ints {w : World} {B : Nat} {s : Sl} {zs : List Int} (h : OwnI w B s zs) : Ints .i64 w s.1 s.2.1 s.2.2 zs := by
  obtain ⟨a, n, c⟩ := s
  unfold OwnI at h
  simp only at h ⊢
  rcases h.2 with ⟨h0, h1⟩ | ⟨g, cap, cur, hv, _⟩
  · cases h0
    have hl : zs.length = 0 := by simpa using h.1
    exact ⟨hl, Nat.le_refl _, Nat.zero_le _, .inl rfl⟩
  · cases hv
    exact Ints.of_owns h
theorem OwnI.below {w w' : World} {B : Nat} {s : Sl} {zs : List Int} (h : OwnI w B s zs) (hb : Below w.heap.size w w') : OwnI w' B s zs := owns_below h hb
theorem OwnV.below {w w' : World} {B : Nat} {s : S4} {m : V4} (h : OwnV w B s m) (hb : Below w.heap.size w w') : OwnV w' B s m := ⟨⟨h.1.1.below hb, h.1.2.1.below hb, h.1.2.2.1.below hb, h.1.2.2.2.below hb⟩, h.2⟩
theorem OwnV.mem {w : World} {B : Nat} {s : S4} {m : V4} (h : OwnV w B s m) (hf : V4.fits m) : Vmem w s m := ⟨⟨h.1.1.ints, hf.1⟩, ⟨h.1.2.1.ints, hf.2.1⟩, ⟨h.1.2.2.1.ints, hf.2.2.1⟩, ⟨h.1.2.2.2.ints, hf.2.2.2⟩⟩
theorem own_lower {w : World} {B B' e s n : Nat} {v : Value} {cs : List Value} (h : w.ownsRow B e s v n cs) (hB : B' ≤ B) : w.ownsRow B' e s v n cs := by
  refine ⟨h.1, ?_⟩
  rcases h.2 with h0 | ⟨g, cap, cur, hv, hg, rest⟩
  · exact .inl h0
  · exact .inr ⟨g, cap, cur, hv, Nat.le_trans hB hg, rest⟩
theorem box4 (w : World) (x y z u : Value) (t B : Nat) (hB : B ≤ w.heap.size) : (w.alloc (.cells #[x, y, z, u] t)).ownsRow B t 4 (.slice (some ⟨w.heap.size, 0, none⟩) 1 1) 1 [x, y, z, u] := World.ownsRow_lit w #[x, y, z, u] 1 hB (by unfold maxLen; omega) rfl

end Go.Proofs.YtcdpcfnlflpjnaaDoor


/-
  l01In: a number in its bounds.
-/
namespace Go.Proofs.YtcdpcfnlflpjnaaDoor
open Go.RowKit

theorem l01In_yes (n a b : Int) (w : World) (h : a ≤ n ∧ n ≤ b) : Calls Tryd.prog 52 #[.int .i64 n, .int .i64 a, .int .i64 b] w fun e w' => e = .returned (.bool true) ∧ w = w' := by
  obtain ⟨h1, h2⟩ := h
  go_enter Tryd.func52, Tryd.ntmps52
  go_wp2
  go_ret
  exact ⟨rfl, rfl⟩
theorem l01In_no (n a b : Int) (w : World) (h : ¬ (a ≤ n ∧ n ≤ b)) : Calls Tryd.prog 52 #[.int .i64 n, .int .i64 a, .int .i64 b] w fun e w' => e = .returned (.bool false) ∧ w = w' := by
  by_cases h1 : a ≤ n
  · have h2 : decide (n ≤ b) = false := by simp; omega
    clear h
    go_enter Tryd.func52, Tryd.ntmps52
    go_wp2
    go_ret
    exact ⟨rfl, rfl⟩
  · clear h
    go_enter Tryd.func52, Tryd.ntmps52
    go_wp2
    go_ret
    exact ⟨rfl, rfl⟩

end Go.Proofs.YtcdpcfnlflpjnaaDoor


/-
  Operands: what each kind of an instruction's number may be (impl's methods right), and how an operand's method is found.
-/
namespace Go.Proofs.YtcdpcfnlflpjnaaDoor
open Go.RowKit

def inB (n a b : Int) : Bool := decide (a ≤ n ∧ n ≤ b)

theorem inB_true {n a b : Int} : inB n a b = true ↔ a ≤ n ∧ n ≤ b := by simp [inB]
theorem inB_false {n a b : Int} : inB n a b = false ↔ ¬ (a ≤ n ∧ n ≤ b) := by simp only [inB, decide_eq_false_iff_not]


theorem meth_register (v : Value) (w : World) : (Go.method 276 154 v "loop.example/g00632/impl.right").run Tryd.prog w = .ok (108, v) w := by kernel_rfl

set_option maxHeartbeats 1000000 in
set_option maxRecDepth 100000 in
theorem right_register (n : Int) (w : World) : Calls Tryd.prog 108 #[.int .i64 n] w fun e w' => e = .returned (.bool (inB n 0 1)) ∧ w = w' := by
  cases h : inB n 0 1
  · rw [inB_false] at h
    by_cases h1 : 0 ≤ n
    · have h2 : decide (n < 2) = false := by simp; omega
      clear h
      go_enter Tryd.func108, Tryd.ntmps108
      go_wp2
      go_ret
      exact ⟨rfl, rfl⟩
    · clear h
      go_enter Tryd.func108, Tryd.ntmps108
      go_wp2
      go_ret
      exact ⟨rfl, rfl⟩
  · rw [inB_true] at h
    obtain ⟨h1, h3⟩ := h
    have h2 : decide (n < 2) = true := by simp; omega
    clear h3
    go_enter Tryd.func108, Tryd.ntmps108
    go_wp2
    go_ret
    exact ⟨by simp_all, rfl⟩


theorem meth_shared (v : Value) (w : World) : (Go.method 276 155 v "loop.example/g00632/impl.right").run Tryd.prog w = .ok (109, v) w := by kernel_rfl

set_option maxHeartbeats 1000000 in
set_option maxRecDepth 100000 in
theorem right_shared (n : Int) (w : World) : Calls Tryd.prog 109 #[.int .i64 n] w fun e w' => e = .returned (.bool (inB n 0 3)) ∧ w = w' := by
  cases h : inB n 0 3
  · rw [inB_false] at h
    by_cases h1 : 0 ≤ n
    · have h2 : decide (n < 4) = false := by simp; omega
      clear h
      go_enter Tryd.func109, Tryd.ntmps109
      go_wp2
      go_ret
      exact ⟨rfl, rfl⟩
    · clear h
      go_enter Tryd.func109, Tryd.ntmps109
      go_wp2
      go_ret
      exact ⟨rfl, rfl⟩
  · rw [inB_true] at h
    obtain ⟨h1, h3⟩ := h
    have h2 : decide (n < 4) = true := by simp; omega
    clear h3
    go_enter Tryd.func109, Tryd.ntmps109
    go_wp2
    go_ret
    exact ⟨by simp_all, rfl⟩


theorem meth_lock (v : Value) (w : World) : (Go.method 276 157 v "loop.example/g00632/impl.right").run Tryd.prog w = .ok (111, v) w := by kernel_rfl

set_option maxHeartbeats 1000000 in
set_option maxRecDepth 100000 in
theorem right_lock (n : Int) (w : World) : Calls Tryd.prog 111 #[.int .i64 n] w fun e w' => e = .returned (.bool (inB n 0 1)) ∧ w = w' := by
  cases h : inB n 0 1
  · rw [inB_false] at h
    by_cases h1 : 0 ≤ n
    · have h2 : decide (n < 2) = false := by simp; omega
      clear h
      go_enter Tryd.func111, Tryd.ntmps111
      go_wp2
      go_ret
      exact ⟨rfl, rfl⟩
    · clear h
      go_enter Tryd.func111, Tryd.ntmps111
      go_wp2
      go_ret
      exact ⟨rfl, rfl⟩
  · rw [inB_true] at h
    obtain ⟨h1, h3⟩ := h
    have h2 : decide (n < 2) = true := by simp; omega
    clear h3
    go_enter Tryd.func111, Tryd.ntmps111
    go_wp2
    go_ret
    exact ⟨by simp_all, rfl⟩


theorem meth_value (v : Value) (w : World) : (Go.method 276 156 v "loop.example/g00632/impl.right").run Tryd.prog w = .ok (110, v) w := by kernel_rfl

set_option maxHeartbeats 1000000 in
set_option maxRecDepth 100000 in
theorem right_value (n : Int) (w : World) : Calls Tryd.prog 110 #[.int .i64 n] w fun e w' => e = .returned (.bool (inB n 0 9)) ∧ w = w' := by
  cases h : inB n 0 9
  · rw [inB_false] at h
    by_cases h1 : 0 ≤ n
    · have h2 : decide (n ≤ 9) = false := by simp; omega
      clear h
      go_enter Tryd.func110, Tryd.ntmps110
      go_wp2
      go_ret
      exact ⟨rfl, rfl⟩
    · clear h
      go_enter Tryd.func110, Tryd.ntmps110
      go_wp2
      go_ret
      exact ⟨rfl, rfl⟩
  · rw [inB_true] at h
    obtain ⟨h1, h3⟩ := h
    have h2 : decide (n ≤ 9) = true := by simp; omega
    clear h3
    go_enter Tryd.func110, Tryd.ntmps110
    go_wp2
    go_ret
    exact ⟨by simp_all, rfl⟩


theorem meth_target (v : Value) (w : World) : (Go.method 276 152 v "loop.example/g00632/impl.right").run Tryd.prog w = .ok (107, v) w := by kernel_rfl

set_option maxHeartbeats 1000000 in
set_option maxRecDepth 100000 in
theorem right_target (n : Int) (w : World) : Calls Tryd.prog 107 #[.int .i64 n] w fun e w' => e = .returned (.bool (inB n 1 6)) ∧ w = w' := by
  cases h : inB n 1 6
  · rw [inB_false] at h
    by_cases h1 : 1 ≤ n
    · have h2 : decide (n ≤ 6) = false := by simp; omega
      clear h
      go_enter Tryd.func107, Tryd.ntmps107
      go_wp2
      go_ret
      exact ⟨rfl, rfl⟩
    · clear h
      go_enter Tryd.func107, Tryd.ntmps107
      go_wp2
      go_ret
      exact ⟨rfl, rfl⟩
  · rw [inB_true] at h
    obtain ⟨h1, h3⟩ := h
    have h2 : decide (n ≤ 6) = true := by simp; omega
    clear h3
    go_enter Tryd.func107, Tryd.ntmps107
    go_wp2
    go_ret
    exact ⟨by simp_all, rfl⟩


theorem meth_no (v : Value) (w : World) : (Go.method 276 158 v "loop.example/g00632/impl.right").run Tryd.prog w = .ok (112, v) w := by kernel_rfl

set_option maxHeartbeats 1000000 in
set_option maxRecDepth 100000 in
theorem right_no (n : Int) (w : World) : Calls Tryd.prog 112 #[.int .i64 n] w fun e w' => e = .returned (.bool (inB n 0 0)) ∧ w = w' := by
  go_enter Tryd.func112, Tryd.ntmps112
  go_wp2
  go_ret
  refine ⟨?_, rfl⟩
  cases h : inB n 0 0
  · rw [inB_false] at h
    have h2 : (n == 0) = false := by simp; omega
    simp [h2]
  · rw [inB_true] at h
    have h2 : (n == 0) = true := by simp; omega
    simp [h2]

end Go.Proofs.YtcdpcfnlflpjnaaDoor

