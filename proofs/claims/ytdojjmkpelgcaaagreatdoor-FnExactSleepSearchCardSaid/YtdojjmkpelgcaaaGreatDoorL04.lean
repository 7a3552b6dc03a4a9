/-
  Joined: BugS, Vm0, Vm2.
-/
import Derived.ChangeSlices
import Derived.Lib.SmallJoins
import Derived.Test.YtdojjmkpelgcaaaGreatDoorL03

namespace Go.Proofs.YtdojjmkpelgcaaaGreatDoor
set_option maxRecDepth 100000
open Go.RowKit
set_option linter.unusedVariables false

theorem info_bug : (Tryz.prog.info? 64).map (fun i => (i.zero, i.size, i.bytes)) = some (some (.agg #[.int .i64 0, .int .i64 0, .int .i64 0]), 3, 24) := by kernel_rfl

set_option maxHeartbeats 1000000 in
theorem eqBugS_same (a a' : Option Addr) (len cap cap' : Nat) (xs : List I3) (w : World) (h : Instrs w a len cap xs) (h' : Instrs w a' len cap' xs) :
  Calls Tryz.prog 97 #[.slice a len cap, .slice a' len cap'] w fun e w' => e = .returned (.bool true) ∧ Below w.heap.size w w' := by
 obtain ⟨hl, hlc, hcm, _, hcase⟩ := h
 obtain ⟨_, hlc', hcm', _, hcase'⟩ := h'
 unfold maxLen at hcm hcm'
 have hne : ((len : Int) != (len : Int)) = false := by simp
 by_cases h0 : len = 0
 ·subst h0
  go_enter Tryz.func97, Tryz.ntmps97
  go_wp2
  refine wp_loop_rounds 1 ?_
  rw [rounds_succ]
  go_wp2
  go_ret
  exact ⟨rfl, Below.refl _ _⟩
 ·rcases hcase with h0' | ⟨b, off, rfl, hblt, hcell⟩
  ·exact absurd h0' h0
  rcases hcase' with h0' | ⟨b', off', rfl, hblt', hcell'⟩
  ·exact absurd h0' h0
  go_enter Tryz.func97, Tryz.ntmps97
  go_wp2
  go_loopw [5] (fun si wr => ∃ k : Nat, k ≤ len ∧ si = .int .i64 k ∧ Below w.heap.size w wr) (fun si _ => len - (intOf si).toNat)
  case atStart => exact ⟨0, by omega, rfl, Below.refl _ _⟩
  case round =>
   obtain ⟨k, hk, rfl, hbel⟩ := hrel
   by_cases hlt : k < len
   ·obtain ⟨c0, c1, c2⟩ := hcell k hlt
    obtain ⟨e0, e1, e2⟩ := hcell' k hlt
    rw [← hbel.cell (p := ⟨b, _, none⟩) hblt] at c0 c1 c2
    rw [← hbel.cell (p := ⟨b', _, none⟩) hblt'] at e0 e1 e2
    have hlt' : (k : Int) < (len : Int) := by omega
    generalize xs.getD k (0, 0, 0) = x at c0 c1 c2 e0 e1 e2
    clear hcell hcell'
    go_wp2_with fail
    have hk0 : (0 : Int) ≤ (k : Int) := by omega
    go_region_held3 (fun w' => w'.cell? ⟨b, off + k * 3, none⟩ = some (.int .i64 x.1) ∧ w'.cell? ⟨b, off + k * 3 + 1, none⟩ = some (.int .i64 x.2.1) ∧ w'.cell? ⟨b, off + k * 3 + 2, none⟩ = some (.int .i64 x.2.2) ∧ w'.cell? ⟨b', off' + k * 3, none⟩ = some (.int .i64 x.1) ∧ w'.cell? ⟨b', off' + k * 3 + 1, none⟩ = some (.int .i64 x.2.1) ∧ w'.cell? ⟨b', off' + k * 3 + 2, none⟩ = some (.int .i64 x.2.2)) (first | (exact ⟨c0, c1, c2, e0, e1, e2⟩) | (refine ⟨?_, ?_, ?_, ?_, ?_, ?_⟩ <;> (apply cells_kept (by assumption); assumption)) | go_keep)
     (first | (go_at_call 144; refine (eqBug_same x _).mono ?_; rintro e w1 ⟨rfl, hb1⟩))
    have hbel1 : Below w.heap.size w w1 := bel_trans hbel (bel_trans (by go_grown) hb1)
    go_wp2
    go_roundw
    case rel => exact ⟨k + 1, by omega, by go_num, hbel1⟩
    case measure => simp [intOf]; omega
   ·go_wp2
    go_ret
    exact ⟨rfl, hbel⟩

set_option maxHeartbeats 1000000 in
theorem markBugS_own (base g n cap : Nat) (k : Int) (xs : List I3) (w : World) (hk0 : 0 ≤ k) (hk : k ≤ 1000000000) (hn : n ≤ 1048576) (hl : xs.length = n) (ho : w.ownsRow base 64 3 (.slice (some ⟨g, 0, none⟩) n cap) n (flat xs)) :
  Calls Tryz.prog 100 #[.slice (some ⟨g, 0, none⟩) n cap, .int .i64 k] w fun e w' => e = .returned (.int .i64 (k + n * 3)) ∧
   w'.ownsRow base 64 3 (.slice (some ⟨g, 0, none⟩) n cap) n (flat (mkI k xs n)) ∧ w.grownBy w' (some g) := by
 go_enter Tryz.func100, Tryz.ntmps100
 go_wp2
 go_loopw [1, 5] (fun sk si wr => ∃ j : Nat, j ≤ n ∧ si = .int .i64 j ∧ sk = .int .i64 (k + j * 3) ∧ wr.ownsRow base 64 3 (.slice (some ⟨g, 0, none⟩) n cap) n (flat (mkI k xs j)) ∧ w.grownBy wr (some g)) (fun _ si _ => n - (intOf si).toNat)
 case atStart => exact ⟨0, by omega, rfl, by go_num, by simpa [mkI] using ho, World.grownBy.refl _ _⟩
 case round =>
  obtain ⟨j, hj, rfl, rfl, hr, hg⟩ := hrel
  by_cases hlt : j < n
  ·have hlt2 : (j : Int) < (n : Int) := by omega
   have hj0 : (0 : Int) ≤ (j : Int) := by omega
   have f0 := hr.frozenAt (j * 3)
   have f1 := hr.frozenAt (j * 3 + 1)
   have f2 := hr.frozenAt (j * 3 + 2)
   have hlen : (flat (mkI k xs j)).length = n * 3 := by rw [flat_length, mkI_len, hl]
   obtain ⟨u0, hu0⟩ : ∃ u, wr.cell? ⟨g, j * 3, none⟩ = some u := ⟨_, by rw [hr.cellAt _ (by omega)]; exact List.getElem?_eq_getElem (by omega)⟩
   obtain ⟨u1, hu1⟩ : ∃ u, wr.cell? ⟨g, j * 3 + 1, none⟩ = some u := ⟨_, by rw [hr.cellAt _ (by omega)]; exact List.getElem?_eq_getElem (by omega)⟩
   obtain ⟨u2, hu2⟩ : ∃ u, wr.cell? ⟨g, j * 3 + 2, none⟩ = some u := ⟨_, by rw [hr.cellAt _ (by omega)]; exact List.getElem?_eq_getElem (by omega)⟩
   have R := (((hr.stored (j * 3) (.int .i64 (k + j * 3))).1.stored (j * 3 + 1) (.int .i64 (k + j * 3 + 1))).1.stored (j * 3 + 2) (.int .i64 (k + j * 3 + 1 + 1))).1
   rw [show (k + (j : Int) * 3 + 1 + 1) = k + j * 3 + 2 by omega, mkI_set k xs j (by omega), show (k + (j : Int) * 3 + 2) = k + j * 3 + 1 + 1 by omega] at R
   have G := grownBy_tr hg (grownBy_tr (grownBy_set wr g (j * 3) (.int .i64 (k + j * 3))) (grownBy_tr (grownBy_set _ g (j * 3 + 1) (.int .i64 (k + j * 3 + 1))) (grownBy_set _ g (j * 3 + 2) (.int .i64 (k + j * 3 + 1 + 1)))))
   clear hr hg ho hlen
   go_wp2
   go_roundw
   case rel => exact ⟨j + 1, by omega, by go_num, by go_num, R, G⟩
   case measure => simp [intOf]; omega
  ·obtain rfl : j = n := by omega
   go_wp2
   go_ret
   exact ⟨rfl, hr, hg⟩

theorem markBugS_none (k : Int) (w : World) : Calls Tryz.prog 100 #[.slice none 0 0, .int .i64 k] w fun e w' => e = .returned (.int .i64 k) ∧ w = w' := by
 go_enter Tryz.func100, Tryz.ntmps100
 go_wp2
 refine wp_loop_rounds 1 ?_
 rw [rounds_succ]
 go_wp2
 go_ret
 exact ⟨rfl, rfl⟩

theorem markBugS_any (base : Nat) (v : Value) (k : Int) (xs : List I3) (w : World) (hk0 : 0 ≤ k) (hk : k ≤ 1000000000) (hn : xs.length ≤ 1048576) (ho : w.ownsRow base 64 3 v xs.length (flat xs)) :
  Calls Tryz.prog 100 #[v, .int .i64 k] w fun e w' => e = .returned (.int .i64 (k + xs.length * 3)) ∧
   w'.ownsRow base 64 3 v xs.length (flat (mkI k xs xs.length)) ∧ w.grownBy w' v.ownBlock := by
 rcases ho.2 with ⟨rfl, h0⟩ | ⟨g, cap, cur, rfl, _⟩
 ·obtain rfl : xs = [] := List.eq_nil_of_length_eq_zero h0
  refine (markBugS_none k w).mono ?_
  rintro e w' ⟨rfl, rfl⟩
  exact ⟨by simp, ho, World.grownBy.refl _ _⟩
 ·exact markBugS_own base g _ cap k xs w hk0 hk hn rfl ho

set_option maxHeartbeats 1000000 in
theorem heldBugS_own (base g n cap : Nat) (k : Int) (xs : List I3) (w : World) (hk0 : 0 ≤ k) (hk : k ≤ 1000000000) (hn : n ≤ 1048576) (hl : xs.length = n) (ho : w.ownsRow base 64 3 (.slice (some ⟨g, 0, none⟩) n cap) n (flat (mkI k xs n))) :
  Calls Tryz.prog 101 #[.slice (some ⟨g, 0, none⟩) n cap, .int .i64 k] w fun e w' => e = .returned (.int .i64 (k + n * 3)) ∧ w = w' := by
 go_enter Tryz.func101, Tryz.ntmps101
 go_wp2
 go_loop [1, 5] (fun sk si => ∃ j : Nat, j ≤ n ∧ si = .int .i64 j ∧ sk = .int .i64 (k + j * 3)) (fun _ si => n - (intOf si).toNat)
 case atStart => exact ⟨0, by omega, rfl, by go_num⟩
 case round =>
  obtain ⟨j, hj, rfl, rfl⟩ := hrel
  by_cases hlt : j < n
  ·have hlt2 : (j : Int) < (n : Int) := by omega
   have hj0 : (0 : Int) ≤ (j : Int) := by omega
   obtain ⟨a0, a1, a2⟩ := flat_at (xs := mkI k xs n) (t := j) (by rw [mkI_len]; omega)
   rw [mkI_get k xs n j hlt (by omega)] at a0 a1 a2
   have c0 : w.cell? ⟨g, j * 3, none⟩ = some (.int .i64 (k + j * 3)) := by rw [ho.cellAt _ (by omega)]; exact a0
   have c1 : w.cell? ⟨g, j * 3 + 1, none⟩ = some (.int .i64 (k + j * 3 + 1)) := by rw [ho.cellAt _ (by omega)]; exact a1
   have c2 : w.cell? ⟨g, j * 3 + 2, none⟩ = some (.int .i64 (k + j * 3 + 1 + 1)) := by rw [ho.cellAt _ (by omega), a2]; simp; omega
   have n0 : ((k + (j : Int) * 3) != (k + (j : Int) * 3)) = false := by simp
   have n1 : ((k + (j : Int) * 3 + 1) != (k + (j : Int) * 3 + 1)) = false := by simp
   have n2 : ((k + (j : Int) * 3 + 1 + 1) != (k + (j : Int) * 3 + 1 + 1)) = false := by simp
   clear ho a0 a1 a2
   go_wp2
   go_round
   case rel => exact ⟨j + 1, by omega, by go_num, by go_num⟩
   case measure => simp [intOf]; omega
  ·obtain rfl : j = n := by omega
   clear ho
   go_wp2
   go_ret
   exact ⟨rfl, rfl⟩

theorem heldBugS_none (k : Int) (w : World) : Calls Tryz.prog 101 #[.slice none 0 0, .int .i64 k] w fun e w' => e = .returned (.int .i64 k) ∧ w = w' := by
 go_enter Tryz.func101, Tryz.ntmps101
 go_wp2
 refine wp_loop_rounds 1 ?_
 rw [rounds_succ]
 go_wp2
 go_ret
 exact ⟨rfl, rfl⟩

theorem heldBugS_any (base : Nat) (v : Value) (k : Int) (xs : List I3) (w : World) (hk0 : 0 ≤ k) (hk : k ≤ 1000000000) (hn : xs.length ≤ 1048576) (ho : w.ownsRow base 64 3 v xs.length (flat (mkI k xs xs.length))) :
  Calls Tryz.prog 101 #[v, .int .i64 k] w fun e w' => e = .returned (.int .i64 (k + xs.length * 3)) ∧ w = w' := by
 rcases ho.2 with ⟨rfl, h0⟩ | ⟨g, cap, cur, rfl, _⟩
 ·obtain rfl : xs = [] := List.eq_nil_of_length_eq_zero h0
  refine (heldBugS_none k w).mono ?_
  rintro e w' ⟨rfl, rfl⟩
  exact ⟨by simp, rfl⟩
 ·exact heldBugS_own base g _ cap k xs w hk0 hk hn rfl ho

open Go.RowKit Go.ChangeShapes Go.WideShapes Go.Joins

abbrev V4 := List Int × List Int × List Int × List Int
abbrev Sl := Option Addr × Nat × Nat
def Sl.val (s : Sl) : Value := .slice s.1 s.2.1 s.2.2
abbrev S4 := Sl × Sl × Sl × Sl
def S4.val (s : S4) : Value := .agg #[.slice s.1.1 s.1.2.1 s.1.2.2, .slice s.2.1.1 s.2.1.2.1 s.2.1.2.2, .slice s.2.2.1.1 s.2.2.1.2.1 s.2.2.1.2.2, .slice s.2.2.2.1 s.2.2.2.2.1 s.2.2.2.2.2]
def SlInts (w : World) (s : Sl) (zs : List Int) : Prop := Ints .i64 w s.1 s.2.1 s.2.2 zs ∧ ∀ z ∈ zs, (Lit.int .i64 z).wf = true
def Vmem (w : World) (s : S4) (m : V4) : Prop := SlInts w s.1 m.1 ∧ SlInts w s.2.1 m.2.1 ∧ SlInts w s.2.2.1 m.2.2.1 ∧ SlInts w s.2.2.2 m.2.2.2

theorem SlInts.below {w w' : World} {s : Sl} {zs : List Int} (h : SlInts w s zs) (hb : Below w.heap.size w w') : SlInts w' s zs := ⟨h.1.below hb, h.2⟩
theorem Vmem.below {w w' : World} {s : S4} {m : V4} (h : Vmem w s m) (hb : Below w.heap.size w w') : Vmem w' s m := ⟨h.1.below hb, h.2.1.below hb, h.2.2.1.below hb, h.2.2.2.below hb⟩

section
variable {H : Type} {enc : TypeId × Value → H} {P : Program} {w : World} {base : Nat} {spare : Nat → Bool} {held : Bool}
end


def OwnI (w : World) (B : Nat) (s : Sl) (zs : List Int) : Prop := w.ownsRow B 3 1 (.slice s.1 s.2.1 s.2.2) s.2.1 (zs.map (Value.int .i64))
def Apart (s s' : Sl) : Prop := ∀ g, (Value.slice s.1 s.2.1 s.2.2).ownBlock = some g → (Value.slice s'.1 s'.2.1 s'.2.2).ownBlock ≠ some g
def OwnV (w : World) (B : Nat) (s : S4) (m : V4) : Prop :=
 (OwnI w B s.1 m.1 ∧ OwnI w B s.2.1 m.2.1 ∧ OwnI w B s.2.2.1 m.2.2.1 ∧ OwnI w B s.2.2.2 m.2.2.2) ∧
 Apart s.1 s.2.1 ∧ Apart s.1 s.2.2.1 ∧ Apart s.1 s.2.2.2 ∧ Apart s.2.1 s.2.2.1 ∧ Apart s.2.1 s.2.2.2 ∧ Apart s.2.2.1 s.2.2.2
def V4.fits (m : V4) : Prop := (∀ z ∈ m.1, (Lit.int .i64 z).wf = true) ∧ (∀ z ∈ m.2.1, (Lit.int .i64 z).wf = true) ∧ (∀ z ∈ m.2.2.1, (Lit.int .i64 z).wf = true) ∧ ∀ z ∈ m.2.2.2, (Lit.int .i64 z).wf = true
theorem OwnI.ints {w : World} {B : Nat} {s : Sl} {zs : List Int} (h : OwnI w B s zs) : Ints .i64 w s.1 s.2.1 s.2.2 zs := by
 obtain ⟨a, n, c⟩ := s
 unfold OwnI at h
 simp only at h ⊢
 rcases h.2 with ⟨h0, h1⟩ | ⟨g, cap, cur, hv, _⟩
 ·cases h0
  have hl : zs.length = 0 := by simpa using h.1
  exact ⟨hl, Nat.le_refl _, Nat.zero_le _, .inl rfl⟩
 ·cases hv
  exact Ints.of_owns h
theorem OwnI.below {w w' : World} {B : Nat} {s : Sl} {zs : List Int} (h : OwnI w B s zs) (hb : Below w.heap.size w w') : OwnI w' B s zs := owns_below h hb
theorem OwnV.below {w w' : World} {B : Nat} {s : S4} {m : V4} (h : OwnV w B s m) (hb : Below w.heap.size w w') : OwnV w' B s m := ⟨⟨h.1.1.below hb, h.1.2.1.below hb, h.1.2.2.1.below hb, h.1.2.2.2.below hb⟩, h.2⟩
theorem OwnV.mem {w : World} {B : Nat} {s : S4} {m : V4} (h : OwnV w B s m) (hf : V4.fits m) : Vmem w s m := ⟨⟨h.1.1.ints, hf.1⟩, ⟨h.1.2.1.ints, hf.2.1⟩, ⟨h.1.2.2.1.ints, hf.2.2.1⟩, ⟨h.1.2.2.2.ints, hf.2.2.2⟩⟩
theorem own_lower {w : World} {B B' e s n : Nat} {v : Value} {cs : List Value} (h : w.ownsRow B e s v n cs) (hB : B' ≤ B) : w.ownsRow B' e s v n cs := by
 refine ⟨h.1, ?_⟩
 rcases h.2 with h0 | ⟨g, cap, cur, hv, hg, rest⟩
 ·exact .inl h0
 ·exact .inr ⟨g, cap, cur, hv, Nat.le_trans hB hg, rest⟩
end Go.Proofs.YtdojjmkpelgcaaaGreatDoor
