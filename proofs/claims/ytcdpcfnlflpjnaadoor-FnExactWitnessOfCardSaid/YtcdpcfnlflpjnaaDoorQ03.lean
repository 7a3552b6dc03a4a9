/-
  Joined: Marks, MarkV, InOK, Ops.
-/
import Derived.Test.YtcdpcfnlflpjnaaDoorProg
import Derived.Deep.RegionHeld3
import Derived.KernelRfl
import Derived.Tactics
import Derived.WalkKit
import Derived.WalkSpells
import Derived.WalkLawsBesides
import Derived.RegionTactic
import Derived.BigQuiet
import Derived.Deep.QuietTactic
import Derived.Deep.Slices
import Derived.Deep.Strs
import Derived.Deep.Fields
import Derived.ChangeSame
import Derived.Handy
import Derived.OwnWalk
import Derived.ChangeSlices
import Derived.Lib.SmallJoins
import Derived.Test.YtcdpcfnlflpjnaaDoorQ01
import Derived.Test.YtcdpcfnlflpjnaaDoorQ02

/-
  The laws' helpers that mark a slice of integers and look whether the marks are held: markIntS writes k, k + 1, ... into a slice of the call's own; heldIntS finds them.
-/
namespace Go.Proofs.YtcdpcfnlflpjnaaDoor
open Go.RowKit

def mkTo : Int → List Int → Nat → List Int
  | _, xs, 0 => xs
  | _, [], _ + 1 => []
  | k, _ :: xs, j + 1 => k :: mkTo (k + 1) xs j
theorem mkTo_len : ∀ (k : Int) (xs : List Int) (j : Nat), (mkTo k xs j).length = xs.length
  | _, xs, 0 => by simp [mkTo]
  | _, [], _ + 1 => by simp [mkTo]
  | k, _ :: xs, j + 1 => by simp [mkTo, mkTo_len]
theorem mkTo_set : ∀ (k : Int) (xs : List Int) (j : Nat), j < xs.length → (mkTo k xs j).set j (k + j) = mkTo k xs (j + 1)
  | _, [], j, h => by simp at h
  | k, x :: xs, 0, _ => by simp [mkTo]
  | k, x :: xs, j + 1, h => by
    have ih := mkTo_set (k + 1) xs j (by simpa using h)
    have e : k + ((j + 1 : Nat) : Int) = k + 1 + (j : Int) := by omega
    rw [e]
    simp only [mkTo, List.set_cons_succ, ih]
theorem mkTo_get : ∀ (k : Int) (xs : List Int) (j i : Nat), i < j → j ≤ xs.length → (mkTo k xs j).getD i 0 = k + i
  | _, xs, 0, i, h, _ => by omega
  | _, [], j + 1, i, _, h => by simp at h
  | k, x :: xs, j + 1, 0, _, _ => by simp [mkTo]
  | k, x :: xs, j + 1, i + 1, h, hl => by
    have ih := mkTo_get (k + 1) xs j i (by omega) (by simpa using hl)
    have e : k + ((i + 1 : Nat) : Int) = k + 1 + (i : Int) := by omega
    rw [e, ← ih]
    simp [mkTo]

theorem markIntS_none (a : Option Addr) (cap : Nat) (k : Int) (w : World) :
    Calls Tryd.prog 20 #[.slice a 0 cap, .int .i64 k] w fun e w' => e = .returned (.int .i64 k) ∧ w = w' := by
  go_enter Tryd.func20, Tryd.ntmps20
  go_wp2
  refine wp_loop_rounds 1 ?_
  rw [rounds_succ]
  go_wp2
  go_ret
  exact ⟨rfl, rfl⟩

set_option maxHeartbeats 1000000 in
set_option maxRecDepth 100000 in
theorem heldIntS_yes (a : Option Addr) (n cap : Nat) (k : Int) (zs : List Int) (w : World) (hk0 : 0 ≤ k) (hk : k ≤ 1000000000) (hn : n ≤ 1048576) (h : Ints .i64 w a n cap zs) (hm : ∀ i, i < n → zs.getD i 0 = k + i) :
    Calls Tryd.prog 21 #[.slice a n cap, .int .i64 k] w fun e w' => e = .returned (.int .i64 (k + n)) ∧ w = w' := by
  obtain ⟨hl, hlc, hcm, hcase⟩ := h
  unfold maxLen at hcm
  by_cases h0 : n = 0
  · subst h0
    have e0 : k + ((0 : Nat) : Int) = k := by omega
    rw [e0]
    go_enter Tryd.func21, Tryd.ntmps21
    go_wp2
    refine wp_loop_rounds 1 ?_
    rw [rounds_succ]
    go_wp2
    go_ret
    exact ⟨rfl, rfl⟩
  · rcases hcase with h0' | ⟨b, off, rfl, hblt, hcell⟩
    · exact absurd h0' h0
    go_enter Tryd.func21, Tryd.ntmps21
    go_wp2
    go_loop [1, 5] (fun sk si => ∃ j : Nat, j ≤ n ∧ si = .int .i64 j ∧ sk = .int .i64 (k + j)) (fun _ si => n - (intOf si).toNat)
    case atStart => exact ⟨0, by omega, rfl, by go_num⟩
    case round =>
      obtain ⟨j, hj, rfl, rfl⟩ := hrel
      by_cases hlt : j < n
      · have hc := hcell j hlt
        rw [hm j hlt] at hc
        have hne : ((k + (j : Int)) != (k + (j : Int))) = false := by simp
        clear hcell hm
        go_wp2
        go_round
        case rel => exact ⟨j + 1, by omega, by go_num, by go_num⟩
        case measure => simp [intOf]; omega
      · obtain rfl : j = n := by omega
        go_wp2
        go_ret
        exact ⟨rfl, rfl⟩
end Go.Proofs.YtcdpcfnlflpjnaaDoor


/-
  The laws' helpers that mark a state in memory of its own and look whether the marks are held: markVm, heldVm.
-/
namespace Go.Proofs.YtcdpcfnlflpjnaaDoor
open Go.RowKit

theorem Sl.some_or {w : World} {B : Nat} {s : Sl} {zs : List Int} (h : OwnI w B s zs) : (s = (none, 0, 0) ∧ zs = []) ∨ ∃ g n c, s = (some ⟨g, 0, none⟩, n, c) := by
  obtain ⟨a, n, c⟩ := s
  unfold OwnI at h
  simp only at h
  rcases h.2 with ⟨h0, h1⟩ | ⟨g, cap, cur, hv, _⟩
  · cases h0
    exact .inl ⟨rfl, by simpa using h.1⟩
  · cases hv
    exact .inr ⟨g, n, c, rfl⟩

set_option maxHeartbeats 1000000 in
set_option maxRecDepth 100000 in
theorem markIntS_grown0 (base g n cap : Nat) (k : Int) (xs : List Int) (w : World) (hk0 : 0 ≤ k) (hk : k ≤ 1000000000) (hn : n ≤ 1048576) (ho : w.ownsRow base 3 1 (.slice (some ⟨g, 0, none⟩) n cap) n (xs.map (Value.int .i64))) :
    Calls Tryd.prog 20 #[.slice (some ⟨g, 0, none⟩) n cap, .int .i64 k] w fun e w' => e = .returned (.int .i64 (k + n)) ∧
      w'.ownsRow base 3 1 (.slice (some ⟨g, 0, none⟩) n cap) n ((mkTo k xs n).map (Value.int .i64)) ∧ w.grownBy w' (some g) := by
  have hlen : xs.length = n := by simpa using ho.1
  go_enter Tryd.func20, Tryd.ntmps20
  go_wp2
  go_loopw [1, 5] (fun sk si wr => ∃ j : Nat, j ≤ n ∧ si = .int .i64 j ∧ sk = .int .i64 (k + j) ∧ wr.ownsRow base 3 1 (.slice (some ⟨g, 0, none⟩) n cap) n ((mkTo k xs j).map (Value.int .i64)) ∧ w.grownBy wr (some g)) (fun _ si _ => n - (intOf si).toNat)
  case atStart => exact ⟨0, by omega, rfl, by go_num, by simpa [mkTo] using ho, World.grownBy.refl _ _⟩
  case round =>
    obtain ⟨j, hj, rfl, rfl, hr, hbel⟩ := hrel
    by_cases hlt : j < n
    · have hf := hr.frozenAt j
      have hst := (hr.stored j (.int .i64 (k + j))).1
      rw [← List.map_set, mkTo_set k xs j (by omega)] at hst
      have hold : ∃ u, wr.cell? ⟨g, j, none⟩ = some u := by
        have := hr.cellAt j (by omega)
        rw [this]
        exact ⟨_, List.getElem?_eq_getElem (by simp [mkTo_len]; omega)⟩
      obtain ⟨u, hu⟩ := hold
      have hb1 := grownBy_tr hbel (grownBy_set wr g j (.int .i64 (k + j)))
      clear hr ho
      go_wp2
      go_roundw
      case rel => exact ⟨j + 1, by omega, by go_num, by go_num, hst, hb1⟩
      case measure => simp [intOf]; omega
    · obtain rfl : j = n := by omega
      go_wp2
      go_ret
      exact ⟨rfl, hr, hbel⟩

theorem OwnI.len {w : World} {B : Nat} {s : Sl} {zs : List Int} (h : OwnI w B s zs) : zs.length = s.2.1 := by
  have := h.1
  simpa using this
theorem OwnI.kept {w w' : World} {B : Nat} {s s' : Sl} {zs : List Int} (h : OwnI w B s zs) (hg : w.grownBy w' (Value.slice s'.1 s'.2.1 s'.2.2).ownBlock) (ha : Apart s s') : OwnI w' B s zs := by
  refine World.ownsRow.kept h hg ?_
  cases hb : (Value.slice s.1 s.2.1 s.2.2).ownBlock with
  | none => exact .inl rfl
  | some g => exact .inr fun e => ha g hb e.symm
theorem Apart.symm {s s' : Sl} (h : Apart s s') : Apart s' s := fun g h1 h2 => h g h2 h1

end Go.Proofs.YtcdpcfnlflpjnaaDoor


/-
  l01In: a number in its bounds.
-/
namespace Go.Proofs.YtcdpcfnlflpjnaaDoor
open Go.RowKit

theorem l01In_yes (n a b : Int) (w : World) (h : a ≤ n ∧ n ≤ b) : Calls Tryd.prog 52 #[.int .i64 n, .int .i64 a, .int .i64 b] w fun e w' => e = .returned (.bool true) ∧ w = w' := by
  obtain ⟨h1, h2⟩ := h
  go_enter Tryd.func52, Tryd.ntmps52
  go_wp2
  go_ret
  exact ⟨rfl, rfl⟩
theorem l01In_no (n a b : Int) (w : World) (h : ¬ (a ≤ n ∧ n ≤ b)) : Calls Tryd.prog 52 #[.int .i64 n, .int .i64 a, .int .i64 b] w fun e w' => e = .returned (.bool false) ∧ w = w' := by
  by_cases h1 : a ≤ n
  · have h2 : decide (n ≤ b) = false := by simp; omega
    clear h
    go_enter Tryd.func52, Tryd.ntmps52
    go_wp2
    go_ret
    exact ⟨rfl, rfl⟩
  · clear h
    go_enter Tryd.func52, Tryd.ntmps52
    go_wp2
    go_ret
    exact ⟨rfl, rfl⟩

end Go.Proofs.YtcdpcfnlflpjnaaDoor


/-
  Operands: what each kind of an instruction's number may be (impl's methods right), and how an operand's method is found.
-/
namespace Go.Proofs.YtcdpcfnlflpjnaaDoor
open Go.RowKit

def inB (n a b : Int) : Bool := decide (a ≤ n ∧ n ≤ b)

theorem inB_true {n a b : Int} : inB n a b = true ↔ a ≤ n ∧ n ≤ b := by simp [inB]
theorem inB_false {n a b : Int} : inB n a b = false ↔ ¬ (a ≤ n ∧ n ≤ b) := by simp only [inB, decide_eq_false_iff_not]


theorem meth_register (v : Value) (w : World) : (Go.method 276 154 v "loop.example/g00632/impl.right").run Tryd.prog w = .ok (108, v) w := by kernel_rfl

set_option maxHeartbeats 1000000 in
set_option maxRecDepth 100000 in
theorem right_register (n : Int) (w : World) : Calls Tryd.prog 108 #[.int .i64 n] w fun e w' => e = .returned (.bool (inB n 0 1)) ∧ w = w' := by
  cases h : inB n 0 1
  · rw [inB_false] at h
    by_cases h1 : 0 ≤ n
    · have h2 : decide (n < 2) = false := by simp; omega
      clear h
      go_enter Tryd.func108, Tryd.ntmps108
      go_wp2
      go_ret
      exact ⟨rfl, rfl⟩
    · clear h
      go_enter Tryd.func108, Tryd.ntmps108
      go_wp2
      go_ret
      exact ⟨rfl, rfl⟩
  · rw [inB_true] at h
    obtain ⟨h1, h3⟩ := h
    have h2 : decide (n < 2) = true := by simp; omega
    clear h3
    go_enter Tryd.func108, Tryd.ntmps108
    go_wp2
    go_ret
    exact ⟨by simp_all, rfl⟩


theorem meth_shared (v : Value) (w : World) : (Go.method 276 155 v "loop.example/g00632/impl.right").run Tryd.prog w = .ok (109, v) w := by kernel_rfl

set_option maxHeartbeats 1000000 in
set_option maxRecDepth 100000 in
theorem right_shared (n : Int) (w : World) : Calls Tryd.prog 109 #[.int .i64 n] w fun e w' => e = .returned (.bool (inB n 0 3)) ∧ w = w' := by
  cases h : inB n 0 3
  · rw [inB_false] at h
    by_cases h1 : 0 ≤ n
    · have h2 : decide (n < 4) = false := by simp; omega
      clear h
      go_enter Tryd.func109, Tryd.ntmps109
      go_wp2
      go_ret
      exact ⟨rfl, rfl⟩
    · clear h
      go_enter Tryd.func109, Tryd.ntmps109
      go_wp2
      go_ret
      exact ⟨rfl, rfl⟩
  · rw [inB_true] at h
    obtain ⟨h1, h3⟩ := h
    have h2 : decide (n < 4) = true := by simp; omega
    clear h3
    go_enter Tryd.func109, Tryd.ntmps109
    go_wp2
    go_ret
    exact ⟨by simp_all, rfl⟩


theorem meth_lock (v : Value) (w : World) : (Go.method 276 157 v "loop.example/g00632/impl.right").run Tryd.prog w = .ok (111, v) w := by kernel_rfl

set_option maxHeartbeats 1000000 in
set_option maxRecDepth 100000 in
theorem right_lock (n : Int) (w : World) : Calls Tryd.prog 111 #[.int .i64 n] w fun e w' => e = .returned (.bool (inB n 0 1)) ∧ w = w' := by
  cases h : inB n 0 1
  · rw [inB_false] at h
    by_cases h1 : 0 ≤ n
    · have h2 : decide (n < 2) = false := by simp; omega
      clear h
      go_enter Tryd.func111, Tryd.ntmps111
      go_wp2
      go_ret
      exact ⟨rfl, rfl⟩
    · clear h
      go_enter Tryd.func111, Tryd.ntmps111
      go_wp2
      go_ret
      exact ⟨rfl, rfl⟩
  · rw [inB_true] at h
    obtain ⟨h1, h3⟩ := h
    have h2 : decide (n < 2) = true := by simp; omega
    clear h3
    go_enter Tryd.func111, Tryd.ntmps111
    go_wp2
    go_ret
    exact ⟨by simp_all, rfl⟩


theorem meth_value (v : Value) (w : World) : (Go.method 276 156 v "loop.example/g00632/impl.right").run Tryd.prog w = .ok (110, v) w := by kernel_rfl

set_option maxHeartbeats 1000000 in
set_option maxRecDepth 100000 in
theorem right_value (n : Int) (w : World) : Calls Tryd.prog 110 #[.int .i64 n] w fun e w' => e = .returned (.bool (inB n 0 9)) ∧ w = w' := by
  cases h : inB n 0 9
  · rw [inB_false] at h
    by_cases h1 : 0 ≤ n
    · have h2 : decide (n ≤ 9) = false := by simp; omega
      clear h
      go_enter Tryd.func110, Tryd.ntmps110
      go_wp2
      go_ret
      exact ⟨rfl, rfl⟩
    · clear h
      go_enter Tryd.func110, Tryd.ntmps110
      go_wp2
      go_ret
      exact ⟨rfl, rfl⟩
  · rw [inB_true] at h
    obtain ⟨h1, h3⟩ := h
    have h2 : decide (n ≤ 9) = true := by simp; omega
    clear h3
    go_enter Tryd.func110, Tryd.ntmps110
    go_wp2
    go_ret
    exact ⟨by simp_all, rfl⟩


theorem meth_target (v : Value) (w : World) : (Go.method 276 152 v "loop.example/g00632/impl.right").run Tryd.prog w = .ok (107, v) w := by kernel_rfl

set_option maxHeartbeats 1000000 in
set_option maxRecDepth 100000 in
theorem right_target (n : Int) (w : World) : Calls Tryd.prog 107 #[.int .i64 n] w fun e w' => e = .returned (.bool (inB n 1 6)) ∧ w = w' := by
  cases h : inB n 1 6
  · rw [inB_false] at h
    by_cases h1 : 1 ≤ n
    · have h2 : decide (n ≤ 6) = false := by simp; omega
      clear h
      go_enter Tryd.func107, Tryd.ntmps107
      go_wp2
      go_ret
      exact ⟨rfl, rfl⟩
    · clear h
      go_enter Tryd.func107, Tryd.ntmps107
      go_wp2
      go_ret
      exact ⟨rfl, rfl⟩
  · rw [inB_true] at h
    obtain ⟨h1, h3⟩ := h
    have h2 : decide (n ≤ 6) = true := by simp; omega
    clear h3
    go_enter Tryd.func107, Tryd.ntmps107
    go_wp2
    go_ret
    exact ⟨by simp_all, rfl⟩


theorem meth_no (v : Value) (w : World) : (Go.method 276 158 v "loop.example/g00632/impl.right").run Tryd.prog w = .ok (112, v) w := by kernel_rfl

set_option maxHeartbeats 1000000 in
set_option maxRecDepth 100000 in
theorem right_no (n : Int) (w : World) : Calls Tryd.prog 112 #[.int .i64 n] w fun e w' => e = .returned (.bool (inB n 0 0)) ∧ w = w' := by
  go_enter Tryd.func112, Tryd.ntmps112
  go_wp2
  go_ret
  refine ⟨?_, rfl⟩
  cases h : inB n 0 0
  · rw [inB_false] at h
    have h2 : (n == 0) = false := by simp; omega
    simp [h2]
  · rw [inB_true] at h
    have h2 : (n == 0) = true := by simp; omega
    simp [h2]

end Go.Proofs.YtcdpcfnlflpjnaaDoor

