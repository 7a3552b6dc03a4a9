/-
  Joined: RyP#2.
-/
import Derived.Test.YtmhngodbnoonhaaDoorProg
import Derived.WalkKit
import Derived.WalkSpells
import Derived.WalkLawsBesides
import Derived.RegionTactic
import Derived.BigQuiet
import Derived.Deep.QuietTactic
import Derived.Deep.Slices
import Derived.Deep.Strs
import Derived.Deep.Fields
import Derived.ChangeSame
import Derived.ChangeSlices
import Derived.Lib.SmallJoins
import Derived.Handy
import Derived.OwnWalk
import Derived.Shelf.Abstract
import Derived.Deep.RegionHeld3
import Derived.Laws.BytesArg
import Derived.Deep.RegionLaw
import Derived.Laws.OwnMore
import Derived.Laws.CopyOwn
import Derived.Laws.Tables
import Derived.BigRegion
import Derived.Maps.AppendAt
import Derived.Test.YtmhngodbnoonhaaDoorM01
import Derived.Test.YtmhngodbnoonhaaDoorM03
import Derived.Test.YtmhngodbnoonhaaDoorM05
import Derived.Test.YtmhngodbnoonhaaDoorM06
import Derived.Test.YtmhngodbnoonhaaDoorM07
import Derived.Test.YtmhngodbnoonhaaDoorM08
import Derived.Test.YtmhngodbnoonhaaDoorM33
import Derived.Test.YtmhngodbnoonhaaDoorM34

/-
  A replay: one step of a thread that can.
-/
namespace Go.Proofs.YtmhngodbnoonhaaDoor
namespace Rp
open Go.RowKit
set_option linter.unusedVariables false
set_option linter.unusedSimpArgs false
variable {fv : Value}

set_option maxHeartbeats 8000000 in
set_option maxRecDepth 100000 in
theorem step_lock (g k p b off n c : Nat) (a : Nat) (z : Int) (cs : Sl × Sl × Sl) (m : V4) (w : World) (hk : k < 3) (hp : p < n) (hp6 : p ≤ 6) (hL : LenOk m) (hM : Blk w g 88 (machR fv cs.1.val cs.2.1.val cs.2.2.val m)) (hg : g ≠ b ∨ True)
    (e0 : w.cell? ⟨g, k * 4, none⟩ = some (.slice (some ⟨b, off, none⟩) n c)) (e1 : w.cell? ⟨g, k * 4 + 1, none⟩ = some (.int .i64 p)) (q0 : w.cell? ⟨b, off + p * 3, none⟩ = some (.int .i64 5)) (q1 : w.cell? ⟨b, off + p * 3 + 1, none⟩ = some (.int .i64 a)) (q2 : w.cell? ⟨b, off + p * 3 + 2, none⟩ = some (.int .i64 z)) (ha : a < 2) :
    Calls Tryd.prog 59 #[.pointer (some ⟨g, 0, none⟩), .int .i64 k] w fun e w' => e = .returned (.int .i64 0) ∧ Blk w' g 88 (machR fv cs.1.val cs.2.1.val cs.2.2.val (m.1.set k ((p : Int) + 1), m.2.1, m.2.2.1.set a ((k : Int) + 1), m.2.2.2)) ∧ w.grownBy w' (some g) := by
  have hk3 : (k : Int) < 3 := by omega
  have hpn : (p : Int) < (n : Int) := by omega
  go_enter Tryd.func59, Tryd.ntmps59
  go_wp2_with fail
  refine wp_region_held_drew (S := (fun w' => w'.cell? ⟨g, k * 4, none⟩ = some (.slice (some ⟨b, off, none⟩) n c) ∧ w'.cell? ⟨g, k * 4 + 1, none⟩ = some (.int .i64 p) ∧ w'.cell? ⟨b, off + p * 3, none⟩ = some (.int .i64 5) ∧ w'.cell? ⟨b, off + p * 3 + 1, none⟩ = some (.int .i64 a) ∧ w'.cell? ⟨b, off + p * 3 + 2, none⟩ = some (.int .i64 z))) (by kernel_rfl) ⟨e0, e1, q0, q1, q2⟩ (fun hS0 => ?_)
  refine wpAnyH_take (i := 0) (oi := { dst := some 12, op := _, type := _, pos := _, after := _, guard := _ }) (v := .pointer (some ⟨g, k * 4, none⟩)) rfl (by kernel_rfl) (by kernel_rfl) (by kernel_rfl) (fun _ _ _ h => h) (Or.inl ⟨by rfl, ?_⟩) (by assumption) ?_
  · (intro w' hSw; (try dsimp only at hSw); go_simp; try rfl)
  simp only [Act.put, List.setIfInBounds_toArray, List.set_cons_zero, List.set_cons_succ]
  refine wpAnyH_take (i := 1) (oi := { dst := some 13, op := _, type := _, pos := _, after := _, guard := _ }) (v := .pointer (some ⟨g, k * 4, none⟩)) rfl (by kernel_rfl) (by kernel_rfl) (by kernel_rfl) (fun _ _ _ h => h) (Or.inl ⟨by rfl, ?_⟩) (by assumption) ?_
  · (intro w' hSw; (try dsimp only at hSw); go_simp; try rfl)
  simp only [Act.put, List.setIfInBounds_toArray, List.set_cons_zero, List.set_cons_succ]
  refine wpAnyH_take (i := 2) (oi := { dst := some 14, op := _, type := _, pos := _, after := _, guard := _ }) (v := .pointer (some ⟨g, k * 4, none⟩)) rfl (by kernel_rfl) (by kernel_rfl) (by kernel_rfl) (fun _ _ _ h => h) (Or.inl ⟨by rfl, ?_⟩) (by assumption) ?_
  · (intro w' hSw; (try dsimp only at hSw); go_simp; try rfl)
  simp only [Act.put, List.setIfInBounds_toArray, List.set_cons_zero, List.set_cons_succ]
  refine wpAnyH_take (i := 3) (oi := { dst := some 15, op := _, type := _, pos := _, after := _, guard := _ }) (v := .slice (some ⟨b, off, none⟩) n c) rfl (by kernel_rfl) (by kernel_rfl) (by kernel_rfl) (fun _ _ _ h => h) (Or.inl ⟨by rfl, ?_⟩) (by assumption) ?_
  · (intro w' hSw; (try dsimp only at hSw); go_simp; try rfl)
  simp only [Act.put, List.setIfInBounds_toArray, List.set_cons_zero, List.set_cons_succ]
  refine wpAnyH_take (i := 4) (oi := { dst := some 16, op := _, type := _, pos := _, after := _, guard := _ }) (v := .pointer (some ⟨g, k * 4, none⟩)) rfl (by kernel_rfl) (by kernel_rfl) (by kernel_rfl) (fun _ _ _ h => h) (Or.inl ⟨by rfl, ?_⟩) (by assumption) ?_
  · (intro w' hSw; (try dsimp only at hSw); go_simp; try rfl)
  simp only [Act.put, List.setIfInBounds_toArray, List.set_cons_zero, List.set_cons_succ]
  refine wpAnyH_take (i := 5) (oi := { dst := some 17, op := _, type := _, pos := _, after := _, guard := _ }) (v := .pointer (some ⟨g, k * 4, none⟩)) rfl (by kernel_rfl) (by kernel_rfl) (by kernel_rfl) (fun _ _ _ h => h) (Or.inl ⟨by rfl, ?_⟩) (by assumption) ?_
  · (intro w' hSw; (try dsimp only at hSw); go_simp; try rfl)
  simp only [Act.put, List.setIfInBounds_toArray, List.set_cons_zero, List.set_cons_succ]
  refine wpAnyH_take (i := 6) (oi := { dst := some 18, op := _, type := _, pos := _, after := _, guard := _ }) (v := .pointer (some ⟨g, k * 4 + 1, none⟩)) rfl (by kernel_rfl) (by kernel_rfl) (by kernel_rfl) (fun _ _ _ h => h) (Or.inl ⟨by rfl, ?_⟩) (by assumption) ?_
  · (intro w' hSw; (try dsimp only at hSw); go_simp; try rfl)
  simp only [Act.put, List.setIfInBounds_toArray, List.set_cons_zero, List.set_cons_succ]
  refine wpAnyH_take (i := 7) (oi := { dst := some 19, op := _, type := _, pos := _, after := _, guard := _ }) (v := .int .i64 p) rfl (by kernel_rfl) (by kernel_rfl) (by kernel_rfl) (fun _ _ _ h => h) (Or.inl ⟨by rfl, ?_⟩) (by assumption) ?_
  · (intro w' hSw; (try dsimp only at hSw); go_simp; try rfl)
  simp only [Act.put, List.setIfInBounds_toArray, List.set_cons_zero, List.set_cons_succ]
  refine wpAnyH_take (i := 8) (oi := { dst := some 20, op := _, type := _, pos := _, after := _, guard := _ }) (v := .pointer (some ⟨b, off + p * 3, none⟩)) rfl (by kernel_rfl) (by kernel_rfl) (by kernel_rfl) (fun _ _ _ h => h) (Or.inl ⟨by rfl, ?_⟩) (by assumption) ?_
  · (intro w' hSw; (try dsimp only at hSw); go_simp; try rfl)
  simp only [Act.put, List.setIfInBounds_toArray, List.set_cons_zero, List.set_cons_succ]
  refine wpAnyH_take (i := 9) (oi := { dst := some 21, op := _, type := _, pos := _, after := _, guard := _ }) (v := .agg #[.int .i64 5, .int .i64 a, .int .i64 z]) rfl (by kernel_rfl) (by kernel_rfl) (by kernel_rfl) (fun _ _ _ h => h) (Or.inl ⟨by rfl, ?_⟩) (by assumption) ?_
  · (intro w' hSw; (try dsimp only at hSw); go_simp; try rfl)
  simp only [Act.put, List.setIfInBounds_toArray, List.set_cons_zero, List.set_cons_succ]
  refine wpAnyH_ready (rs := [10]) (by kernel_rfl) (by simp) ?_
  refine AllReadyH.cons (o := { dst := some 6, op := _, type := _, pos := _, after := _, guard := _ }) rfl (fun K hK => ?_) AllReadyH.nil
  have hal : Below w.drew.heap.size w.drew (w.drew.alloc (.cells #[.int .i64 0, .int .i64 0, .int .i64 0] 125)) := by go_grown
  go_simp
  refine hK.out _ _ ?_ (fun hS1 => ?_)
  · exact ⟨cells_kept hal _ _ hS0.1, cells_kept hal _ _ hS0.2.1, cells_kept hal _ _ hS0.2.2.1, cells_kept hal _ _ hS0.2.2.2.1, cells_kept hal _ _ hS0.2.2.2.2⟩
  clear hK
  try simp only [Act.put, List.setIfInBounds_toArray, List.set_cons_zero, List.set_cons_succ]
  refine wpAnyH_ready (rs := [11]) (by kernel_rfl) (by simp) ?_
  refine AllReadyH.cons (o := { dst := none, op := _, type := _, pos := _, after := _, guard := _ }) rfl (fun K hK => ?_) AllReadyH.nil
  have hal2 : Below w.drew.heap.size w.drew (w.drew.alloc (.cells #[.int .i64 5, .int .i64 a, .int .i64 z] 125)) := by go_grown
  go_simp
  refine hK.out _ _ ?_ (fun hS2 => ?_)
  · exact ⟨cells_kept hal2 _ _ hS0.1, cells_kept hal2 _ _ hS0.2.1, cells_kept hal2 _ _ hS0.2.2.1, cells_kept hal2 _ _ hS0.2.2.2.1, cells_kept hal2 _ _ hS0.2.2.2.2⟩
  clear hK
  try simp only [Act.put, List.setIfInBounds_toArray, List.set_cons_zero, List.set_cons_succ]
  refine wpAnyH_done (by kernel_rfl) ?_ _
  clear hal hal2 hS0 hS1 hS2
  have bx : Below w.heap.size w (w.alloc (.cells #[.int .i64 5, .int .i64 a, .int .i64 z] 125)).drew := by go_grown
  have pX : Blk (w.alloc (.cells #[.int .i64 5, .int .i64 a, .int .i64 z] 125)).drew w.heap.size 125 [.int .i64 5, .int .i64 a, .int .i64 z] := Blk.new w 125 [.int .i64 5, .int .i64 a, .int .i64 z]
  have hgl := hM.lt
  replace hM := hM.below bx
  replace e1 := cells_kept bx _ _ e1
  have gx : w.grownBy (w.alloc (.cells #[.int .i64 5, .int .i64 a, .int .i64 z] 125)).drew (some g) := grown_new bx
  clear bx e0 q0 q1 q2
  generalize hW2 : (w.alloc (.cells #[.int .i64 5, .int .i64 a, .int .i64 z] 125)).drew = W2 at *
  clear hW2
  have hne : w.heap.size ≠ g := by omega
  generalize w.heap.size = gX at *
  have f1 := hM.frozen (k * 4 + 1)
  have hM3 := hM.set (k * 4 + 1) (.int .i64 ((p : Int) + 1))
  rw [mt_pc _ _ _ _ hL hk] at hM3
  have pX3 := pX.off ⟨g, k * 4 + 1, none⟩ (.int .i64 ((p : Int) + 1)) hne
  have g3 := grown_tr gx (grown_cell W2 g (k * 4 + 1) (.int .i64 ((p : Int) + 1)))
  have u0 := pX3.cell 0
  have u1 := pX3.cell 1
  have u2 := pX3.cell 2
  simp only [List.getElem?_cons_zero, List.getElem?_cons_succ] at u0 u1 u2
  obtain ⟨old, r2⟩ : ∃ u, (W2.setCell ⟨g, k * 4 + 1, none⟩ (.int .i64 ((p : Int) + 1))).cell? ⟨g, 16 + a, none⟩ = some u := ⟨_, (hM3.cell _).trans (mc_held _ _ _ _ ha)⟩
  have f_s := hM3.frozen (16 + a)
  have hM4 := hM3.set (16 + a) (.int .i64 ((k : Int) + 1))
  rw [mt_held _ _ _ _ (hL.pc _ _) ha] at hM4
  simp only at hM4
  have g4 := grown_tr g3 (grown_cell (W2.setCell ⟨g, k * 4 + 1, none⟩ (.int .i64 ((p : Int) + 1))) g (16 + a) (.int .i64 ((k : Int) + 1)))
  have ha2 : (a : Int) < 2 := by omega
  have hkw : IntKind.i64.wrap ((k : Int) + 1) = (k : Int) + 1 := IntWalk.i64_in _ (by omega)

  have hpw : IntKind.i64.wrap ((p : Int) + 1) = (p : Int) + 1 := IntWalk.i64_in _ (by omega)
  clear hM gx pX
  clear hM3 g3 pX3
  go_wp2_with fail
  generalize (W2.setCell ⟨g, k * 4 + 1, none⟩ (.int .i64 ((p : Int) + 1))) = W3 at *
  go_region
  go_wp2
  go_ret
  exact ⟨rfl, hM4, grown_drew g4⟩
set_option maxHeartbeats 8000000 in
set_option maxRecDepth 100000 in
theorem step_unlock_yes (g k p b off n c : Nat) (a : Nat) (z : Int) (cs : Sl × Sl × Sl) (m : V4) (w : World) (hk : k < 3) (hp : p < n) (hp6 : p ≤ 6) (hL : LenOk m) (hM : Blk w g 88 (machR fv cs.1.val cs.2.1.val cs.2.2.val m)) (hg : g ≠ b ∨ True)
    (e0 : w.cell? ⟨g, k * 4, none⟩ = some (.slice (some ⟨b, off, none⟩) n c)) (e1 : w.cell? ⟨g, k * 4 + 1, none⟩ = some (.int .i64 p)) (q0 : w.cell? ⟨b, off + p * 3, none⟩ = some (.int .i64 6)) (q1 : w.cell? ⟨b, off + p * 3 + 1, none⟩ = some (.int .i64 a)) (q2 : w.cell? ⟨b, off + p * 3 + 2, none⟩ = some (.int .i64 z)) (ha : a < 2) (hv : m.2.2.1.getD a 0 = (k : Int) + 1) :
    Calls Tryd.prog 59 #[.pointer (some ⟨g, 0, none⟩), .int .i64 k] w fun e w' => e = .returned (.int .i64 0) ∧ Blk w' g 88 (machR fv cs.1.val cs.2.1.val cs.2.2.val (m.1.set k ((p : Int) + 1), m.2.1, m.2.2.1.set a 0, m.2.2.2)) ∧ w.grownBy w' (some g) := by
  have hk3 : (k : Int) < 3 := by omega
  have hpn : (p : Int) < (n : Int) := by omega
  go_enter Tryd.func59, Tryd.ntmps59
  go_wp2_with fail
  refine wp_region_held_drew (S := (fun w' => w'.cell? ⟨g, k * 4, none⟩ = some (.slice (some ⟨b, off, none⟩) n c) ∧ w'.cell? ⟨g, k * 4 + 1, none⟩ = some (.int .i64 p) ∧ w'.cell? ⟨b, off + p * 3, none⟩ = some (.int .i64 6) ∧ w'.cell? ⟨b, off + p * 3 + 1, none⟩ = some (.int .i64 a) ∧ w'.cell? ⟨b, off + p * 3 + 2, none⟩ = some (.int .i64 z))) (by kernel_rfl) ⟨e0, e1, q0, q1, q2⟩ (fun hS0 => ?_)
  refine wpAnyH_take (i := 0) (oi := { dst := some 12, op := _, type := _, pos := _, after := _, guard := _ }) (v := .pointer (some ⟨g, k * 4, none⟩)) rfl (by kernel_rfl) (by kernel_rfl) (by kernel_rfl) (fun _ _ _ h => h) (Or.inl ⟨by rfl, ?_⟩) (by assumption) ?_
  · (intro w' hSw; (try dsimp only at hSw); go_simp; try rfl)
  simp only [Act.put, List.setIfInBounds_toArray, List.set_cons_zero, List.set_cons_succ]
  refine wpAnyH_take (i := 1) (oi := { dst := some 13, op := _, type := _, pos := _, after := _, guard := _ }) (v := .pointer (some ⟨g, k * 4, none⟩)) rfl (by kernel_rfl) (by kernel_rfl) (by kernel_rfl) (fun _ _ _ h => h) (Or.inl ⟨by rfl, ?_⟩) (by assumption) ?_
  · (intro w' hSw; (try dsimp only at hSw); go_simp; try rfl)
  simp only [Act.put, List.setIfInBounds_toArray, List.set_cons_zero, List.set_cons_succ]
  refine wpAnyH_take (i := 2) (oi := { dst := some 14, op := _, type := _, pos := _, after := _, guard := _ }) (v := .pointer (some ⟨g, k * 4, none⟩)) rfl (by kernel_rfl) (by kernel_rfl) (by kernel_rfl) (fun _ _ _ h => h) (Or.inl ⟨by rfl, ?_⟩) (by assumption) ?_
  · (intro w' hSw; (try dsimp only at hSw); go_simp; try rfl)
  simp only [Act.put, List.setIfInBounds_toArray, List.set_cons_zero, List.set_cons_succ]
  refine wpAnyH_take (i := 3) (oi := { dst := some 15, op := _, type := _, pos := _, after := _, guard := _ }) (v := .slice (some ⟨b, off, none⟩) n c) rfl (by kernel_rfl) (by kernel_rfl) (by kernel_rfl) (fun _ _ _ h => h) (Or.inl ⟨by rfl, ?_⟩) (by assumption) ?_
  · (intro w' hSw; (try dsimp only at hSw); go_simp; try rfl)
  simp only [Act.put, List.setIfInBounds_toArray, List.set_cons_zero, List.set_cons_succ]
  refine wpAnyH_take (i := 4) (oi := { dst := some 16, op := _, type := _, pos := _, after := _, guard := _ }) (v := .pointer (some ⟨g, k * 4, none⟩)) rfl (by kernel_rfl) (by kernel_rfl) (by kernel_rfl) (fun _ _ _ h => h) (Or.inl ⟨by rfl, ?_⟩) (by assumption) ?_
  · (intro w' hSw; (try dsimp only at hSw); go_simp; try rfl)
  simp only [Act.put, List.setIfInBounds_toArray, List.set_cons_zero, List.set_cons_succ]
  refine wpAnyH_take (i := 5) (oi := { dst := some 17, op := _, type := _, pos := _, after := _, guard := _ }) (v := .pointer (some ⟨g, k * 4, none⟩)) rfl (by kernel_rfl) (by kernel_rfl) (by kernel_rfl) (fun _ _ _ h => h) (Or.inl ⟨by rfl, ?_⟩) (by assumption) ?_
  · (intro w' hSw; (try dsimp only at hSw); go_simp; try rfl)
  simp only [Act.put, List.setIfInBounds_toArray, List.set_cons_zero, List.set_cons_succ]
  refine wpAnyH_take (i := 6) (oi := { dst := some 18, op := _, type := _, pos := _, after := _, guard := _ }) (v := .pointer (some ⟨g, k * 4 + 1, none⟩)) rfl (by kernel_rfl) (by kernel_rfl) (by kernel_rfl) (fun _ _ _ h => h) (Or.inl ⟨by rfl, ?_⟩) (by assumption) ?_
  · (intro w' hSw; (try dsimp only at hSw); go_simp; try rfl)
  simp only [Act.put, List.setIfInBounds_toArray, List.set_cons_zero, List.set_cons_succ]
  refine wpAnyH_take (i := 7) (oi := { dst := some 19, op := _, type := _, pos := _, after := _, guard := _ }) (v := .int .i64 p) rfl (by kernel_rfl) (by kernel_rfl) (by kernel_rfl) (fun _ _ _ h => h) (Or.inl ⟨by rfl, ?_⟩) (by assumption) ?_
  · (intro w' hSw; (try dsimp only at hSw); go_simp; try rfl)
  simp only [Act.put, List.setIfInBounds_toArray, List.set_cons_zero, List.set_cons_succ]
  refine wpAnyH_take (i := 8) (oi := { dst := some 20, op := _, type := _, pos := _, after := _, guard := _ }) (v := .pointer (some ⟨b, off + p * 3, none⟩)) rfl (by kernel_rfl) (by kernel_rfl) (by kernel_rfl) (fun _ _ _ h => h) (Or.inl ⟨by rfl, ?_⟩) (by assumption) ?_
  · (intro w' hSw; (try dsimp only at hSw); go_simp; try rfl)
  simp only [Act.put, List.setIfInBounds_toArray, List.set_cons_zero, List.set_cons_succ]
  refine wpAnyH_take (i := 9) (oi := { dst := some 21, op := _, type := _, pos := _, after := _, guard := _ }) (v := .agg #[.int .i64 6, .int .i64 a, .int .i64 z]) rfl (by kernel_rfl) (by kernel_rfl) (by kernel_rfl) (fun _ _ _ h => h) (Or.inl ⟨by rfl, ?_⟩) (by assumption) ?_
  · (intro w' hSw; (try dsimp only at hSw); go_simp; try rfl)
  simp only [Act.put, List.setIfInBounds_toArray, List.set_cons_zero, List.set_cons_succ]
  refine wpAnyH_ready (rs := [10]) (by kernel_rfl) (by simp) ?_
  refine AllReadyH.cons (o := { dst := some 6, op := _, type := _, pos := _, after := _, guard := _ }) rfl (fun K hK => ?_) AllReadyH.nil
  have hal : Below w.drew.heap.size w.drew (w.drew.alloc (.cells #[.int .i64 0, .int .i64 0, .int .i64 0] 125)) := by go_grown
  go_simp
  refine hK.out _ _ ?_ (fun hS1 => ?_)
  · exact ⟨cells_kept hal _ _ hS0.1, cells_kept hal _ _ hS0.2.1, cells_kept hal _ _ hS0.2.2.1, cells_kept hal _ _ hS0.2.2.2.1, cells_kept hal _ _ hS0.2.2.2.2⟩
  clear hK
  try simp only [Act.put, List.setIfInBounds_toArray, List.set_cons_zero, List.set_cons_succ]
  refine wpAnyH_ready (rs := [11]) (by kernel_rfl) (by simp) ?_
  refine AllReadyH.cons (o := { dst := none, op := _, type := _, pos := _, after := _, guard := _ }) rfl (fun K hK => ?_) AllReadyH.nil
  have hal2 : Below w.drew.heap.size w.drew (w.drew.alloc (.cells #[.int .i64 6, .int .i64 a, .int .i64 z] 125)) := by go_grown
  go_simp
  refine hK.out _ _ ?_ (fun hS2 => ?_)
  · exact ⟨cells_kept hal2 _ _ hS0.1, cells_kept hal2 _ _ hS0.2.1, cells_kept hal2 _ _ hS0.2.2.1, cells_kept hal2 _ _ hS0.2.2.2.1, cells_kept hal2 _ _ hS0.2.2.2.2⟩
  clear hK
  try simp only [Act.put, List.setIfInBounds_toArray, List.set_cons_zero, List.set_cons_succ]
  refine wpAnyH_done (by kernel_rfl) ?_ _
  clear hal hal2 hS0 hS1 hS2
  have bx : Below w.heap.size w (w.alloc (.cells #[.int .i64 6, .int .i64 a, .int .i64 z] 125)).drew := by go_grown
  have pX : Blk (w.alloc (.cells #[.int .i64 6, .int .i64 a, .int .i64 z] 125)).drew w.heap.size 125 [.int .i64 6, .int .i64 a, .int .i64 z] := Blk.new w 125 [.int .i64 6, .int .i64 a, .int .i64 z]
  have hgl := hM.lt
  replace hM := hM.below bx
  replace e1 := cells_kept bx _ _ e1
  have gx : w.grownBy (w.alloc (.cells #[.int .i64 6, .int .i64 a, .int .i64 z] 125)).drew (some g) := grown_new bx
  clear bx e0 q0 q1 q2
  generalize hW2 : (w.alloc (.cells #[.int .i64 6, .int .i64 a, .int .i64 z] 125)).drew = W2 at *
  clear hW2
  have hne : w.heap.size ≠ g := by omega
  generalize w.heap.size = gX at *
  have f1 := hM.frozen (k * 4 + 1)
  have hM3 := hM.set (k * 4 + 1) (.int .i64 ((p : Int) + 1))
  rw [mt_pc _ _ _ _ hL hk] at hM3
  have pX3 := pX.off ⟨g, k * 4 + 1, none⟩ (.int .i64 ((p : Int) + 1)) hne
  have g3 := grown_tr gx (grown_cell W2 g (k * 4 + 1) (.int .i64 ((p : Int) + 1)))
  have u0 := pX3.cell 0
  have u1 := pX3.cell 1
  have u2 := pX3.cell 2
  simp only [List.getElem?_cons_zero, List.getElem?_cons_succ] at u0 u1 u2

  have hpw : IntKind.i64.wrap ((p : Int) + 1) = (p : Int) + 1 := IntWalk.i64_in _ (by omega)
  clear hM gx pX
  have kU := unlock_yes g k a cs (m.1.set k ((p : Int) + 1), m.2) (W2.setCell ⟨g, k * 4 + 1, none⟩ (.int .i64 ((p : Int) + 1))) hk ha (hL.pc _ _) hM3 hv
  clear hv
  go_wp2_with fail
  generalize (W2.setCell ⟨g, k * 4 + 1, none⟩ (.int .i64 ((p : Int) + 1))) = W3 at *
  refine kU.mono ?_
  rintro e w4 ⟨rfl, hM4, g4⟩
  go_wp2
  go_ret
  exact ⟨rfl, hM4, grown_tr g3 g4⟩
set_option maxHeartbeats 8000000 in
set_option maxRecDepth 100000 in
theorem step_unlock_no (g k p b off n c : Nat) (a : Nat) (z : Int) (cs : Sl × Sl × Sl) (m : V4) (w : World) (hk : k < 3) (hp : p < n) (hp6 : p ≤ 6) (hL : LenOk m) (hM : Blk w g 88 (machR fv cs.1.val cs.2.1.val cs.2.2.val m)) (hg : g ≠ b ∨ True)
    (e0 : w.cell? ⟨g, k * 4, none⟩ = some (.slice (some ⟨b, off, none⟩) n c)) (e1 : w.cell? ⟨g, k * 4 + 1, none⟩ = some (.int .i64 p)) (q0 : w.cell? ⟨b, off + p * 3, none⟩ = some (.int .i64 6)) (q1 : w.cell? ⟨b, off + p * 3 + 1, none⟩ = some (.int .i64 a)) (q2 : w.cell? ⟨b, off + p * 3 + 2, none⟩ = some (.int .i64 z)) (ha : a < 2) (hv : m.2.2.1.getD a 0 ≠ (k : Int) + 1) :
    Calls Tryd.prog 59 #[.pointer (some ⟨g, 0, none⟩), .int .i64 k] w fun e w' => e = .returned (.int .i64 13) ∧ Blk w' g 88 (machR fv cs.1.val cs.2.1.val cs.2.2.val (m.1.set k ((p : Int) + 1), m.2)) ∧ w.grownBy w' (some g) := by
  have hk3 : (k : Int) < 3 := by omega
  have hpn : (p : Int) < (n : Int) := by omega
  go_enter Tryd.func59, Tryd.ntmps59
  go_wp2_with fail
  refine wp_region_held_drew (S := (fun w' => w'.cell? ⟨g, k * 4, none⟩ = some (.slice (some ⟨b, off, none⟩) n c) ∧ w'.cell? ⟨g, k * 4 + 1, none⟩ = some (.int .i64 p) ∧ w'.cell? ⟨b, off + p * 3, none⟩ = some (.int .i64 6) ∧ w'.cell? ⟨b, off + p * 3 + 1, none⟩ = some (.int .i64 a) ∧ w'.cell? ⟨b, off + p * 3 + 2, none⟩ = some (.int .i64 z))) (by kernel_rfl) ⟨e0, e1, q0, q1, q2⟩ (fun hS0 => ?_)
  refine wpAnyH_take (i := 0) (oi := { dst := some 12, op := _, type := _, pos := _, after := _, guard := _ }) (v := .pointer (some ⟨g, k * 4, none⟩)) rfl (by kernel_rfl) (by kernel_rfl) (by kernel_rfl) (fun _ _ _ h => h) (Or.inl ⟨by rfl, ?_⟩) (by assumption) ?_
  · (intro w' hSw; (try dsimp only at hSw); go_simp; try rfl)
  simp only [Act.put, List.setIfInBounds_toArray, List.set_cons_zero, List.set_cons_succ]
  refine wpAnyH_take (i := 1) (oi := { dst := some 13, op := _, type := _, pos := _, after := _, guard := _ }) (v := .pointer (some ⟨g, k * 4, none⟩)) rfl (by kernel_rfl) (by kernel_rfl) (by kernel_rfl) (fun _ _ _ h => h) (Or.inl ⟨by rfl, ?_⟩) (by assumption) ?_
  · (intro w' hSw; (try dsimp only at hSw); go_simp; try rfl)
  simp only [Act.put, List.setIfInBounds_toArray, List.set_cons_zero, List.set_cons_succ]
  refine wpAnyH_take (i := 2) (oi := { dst := some 14, op := _, type := _, pos := _, after := _, guard := _ }) (v := .pointer (some ⟨g, k * 4, none⟩)) rfl (by kernel_rfl) (by kernel_rfl) (by kernel_rfl) (fun _ _ _ h => h) (Or.inl ⟨by rfl, ?_⟩) (by assumption) ?_
  · (intro w' hSw; (try dsimp only at hSw); go_simp; try rfl)
  simp only [Act.put, List.setIfInBounds_toArray, List.set_cons_zero, List.set_cons_succ]
  refine wpAnyH_take (i := 3) (oi := { dst := some 15, op := _, type := _, pos := _, after := _, guard := _ }) (v := .slice (some ⟨b, off, none⟩) n c) rfl (by kernel_rfl) (by kernel_rfl) (by kernel_rfl) (fun _ _ _ h => h) (Or.inl ⟨by rfl, ?_⟩) (by assumption) ?_
  · (intro w' hSw; (try dsimp only at hSw); go_simp; try rfl)
  simp only [Act.put, List.setIfInBounds_toArray, List.set_cons_zero, List.set_cons_succ]
  refine wpAnyH_take (i := 4) (oi := { dst := some 16, op := _, type := _, pos := _, after := _, guard := _ }) (v := .pointer (some ⟨g, k * 4, none⟩)) rfl (by kernel_rfl) (by kernel_rfl) (by kernel_rfl) (fun _ _ _ h => h) (Or.inl ⟨by rfl, ?_⟩) (by assumption) ?_
  · (intro w' hSw; (try dsimp only at hSw); go_simp; try rfl)
  simp only [Act.put, List.setIfInBounds_toArray, List.set_cons_zero, List.set_cons_succ]
  refine wpAnyH_take (i := 5) (oi := { dst := some 17, op := _, type := _, pos := _, after := _, guard := _ }) (v := .pointer (some ⟨g, k * 4, none⟩)) rfl (by kernel_rfl) (by kernel_rfl) (by kernel_rfl) (fun _ _ _ h => h) (Or.inl ⟨by rfl, ?_⟩) (by assumption) ?_
  · (intro w' hSw; (try dsimp only at hSw); go_simp; try rfl)
  simp only [Act.put, List.setIfInBounds_toArray, List.set_cons_zero, List.set_cons_succ]
  refine wpAnyH_take (i := 6) (oi := { dst := some 18, op := _, type := _, pos := _, after := _, guard := _ }) (v := .pointer (some ⟨g, k * 4 + 1, none⟩)) rfl (by kernel_rfl) (by kernel_rfl) (by kernel_rfl) (fun _ _ _ h => h) (Or.inl ⟨by rfl, ?_⟩) (by assumption) ?_
  · (intro w' hSw; (try dsimp only at hSw); go_simp; try rfl)
  simp only [Act.put, List.setIfInBounds_toArray, List.set_cons_zero, List.set_cons_succ]
  refine wpAnyH_take (i := 7) (oi := { dst := some 19, op := _, type := _, pos := _, after := _, guard := _ }) (v := .int .i64 p) rfl (by kernel_rfl) (by kernel_rfl) (by kernel_rfl) (fun _ _ _ h => h) (Or.inl ⟨by rfl, ?_⟩) (by assumption) ?_
  · (intro w' hSw; (try dsimp only at hSw); go_simp; try rfl)
  simp only [Act.put, List.setIfInBounds_toArray, List.set_cons_zero, List.set_cons_succ]
  refine wpAnyH_take (i := 8) (oi := { dst := some 20, op := _, type := _, pos := _, after := _, guard := _ }) (v := .pointer (some ⟨b, off + p * 3, none⟩)) rfl (by kernel_rfl) (by kernel_rfl) (by kernel_rfl) (fun _ _ _ h => h) (Or.inl ⟨by rfl, ?_⟩) (by assumption) ?_
  · (intro w' hSw; (try dsimp only at hSw); go_simp; try rfl)
  simp only [Act.put, List.setIfInBounds_toArray, List.set_cons_zero, List.set_cons_succ]
  refine wpAnyH_take (i := 9) (oi := { dst := some 21, op := _, type := _, pos := _, after := _, guard := _ }) (v := .agg #[.int .i64 6, .int .i64 a, .int .i64 z]) rfl (by kernel_rfl) (by kernel_rfl) (by kernel_rfl) (fun _ _ _ h => h) (Or.inl ⟨by rfl, ?_⟩) (by assumption) ?_
  · (intro w' hSw; (try dsimp only at hSw); go_simp; try rfl)
  simp only [Act.put, List.setIfInBounds_toArray, List.set_cons_zero, List.set_cons_succ]
  refine wpAnyH_ready (rs := [10]) (by kernel_rfl) (by simp) ?_
  refine AllReadyH.cons (o := { dst := some 6, op := _, type := _, pos := _, after := _, guard := _ }) rfl (fun K hK => ?_) AllReadyH.nil
  have hal : Below w.drew.heap.size w.drew (w.drew.alloc (.cells #[.int .i64 0, .int .i64 0, .int .i64 0] 125)) := by go_grown
  go_simp
  refine hK.out _ _ ?_ (fun hS1 => ?_)
  · exact ⟨cells_kept hal _ _ hS0.1, cells_kept hal _ _ hS0.2.1, cells_kept hal _ _ hS0.2.2.1, cells_kept hal _ _ hS0.2.2.2.1, cells_kept hal _ _ hS0.2.2.2.2⟩
  clear hK
  try simp only [Act.put, List.setIfInBounds_toArray, List.set_cons_zero, List.set_cons_succ]
  refine wpAnyH_ready (rs := [11]) (by kernel_rfl) (by simp) ?_
  refine AllReadyH.cons (o := { dst := none, op := _, type := _, pos := _, after := _, guard := _ }) rfl (fun K hK => ?_) AllReadyH.nil
  have hal2 : Below w.drew.heap.size w.drew (w.drew.alloc (.cells #[.int .i64 6, .int .i64 a, .int .i64 z] 125)) := by go_grown
  go_simp
  refine hK.out _ _ ?_ (fun hS2 => ?_)
  · exact ⟨cells_kept hal2 _ _ hS0.1, cells_kept hal2 _ _ hS0.2.1, cells_kept hal2 _ _ hS0.2.2.1, cells_kept hal2 _ _ hS0.2.2.2.1, cells_kept hal2 _ _ hS0.2.2.2.2⟩
  clear hK
  try simp only [Act.put, List.setIfInBounds_toArray, List.set_cons_zero, List.set_cons_succ]
  refine wpAnyH_done (by kernel_rfl) ?_ _
  clear hal hal2 hS0 hS1 hS2
  have bx : Below w.heap.size w (w.alloc (.cells #[.int .i64 6, .int .i64 a, .int .i64 z] 125)).drew := by go_grown
  have pX : Blk (w.alloc (.cells #[.int .i64 6, .int .i64 a, .int .i64 z] 125)).drew w.heap.size 125 [.int .i64 6, .int .i64 a, .int .i64 z] := Blk.new w 125 [.int .i64 6, .int .i64 a, .int .i64 z]
  have hgl := hM.lt
  replace hM := hM.below bx
  replace e1 := cells_kept bx _ _ e1
  have gx : w.grownBy (w.alloc (.cells #[.int .i64 6, .int .i64 a, .int .i64 z] 125)).drew (some g) := grown_new bx
  clear bx e0 q0 q1 q2
  generalize hW2 : (w.alloc (.cells #[.int .i64 6, .int .i64 a, .int .i64 z] 125)).drew = W2 at *
  clear hW2
  have hne : w.heap.size ≠ g := by omega
  generalize w.heap.size = gX at *
  have f1 := hM.frozen (k * 4 + 1)
  have hM3 := hM.set (k * 4 + 1) (.int .i64 ((p : Int) + 1))
  rw [mt_pc _ _ _ _ hL hk] at hM3
  have pX3 := pX.off ⟨g, k * 4 + 1, none⟩ (.int .i64 ((p : Int) + 1)) hne
  have g3 := grown_tr gx (grown_cell W2 g (k * 4 + 1) (.int .i64 ((p : Int) + 1)))
  have u0 := pX3.cell 0
  have u1 := pX3.cell 1
  have u2 := pX3.cell 2
  simp only [List.getElem?_cons_zero, List.getElem?_cons_succ] at u0 u1 u2

  have hpw : IntKind.i64.wrap ((p : Int) + 1) = (p : Int) + 1 := IntWalk.i64_in _ (by omega)
  clear hM gx pX
  have kU := unlock_no g k a cs (m.1.set k ((p : Int) + 1), m.2) (W2.setCell ⟨g, k * 4 + 1, none⟩ (.int .i64 ((p : Int) + 1))) hk ha hM3 hv
  clear hv
  go_wp2_with fail
  generalize (W2.setCell ⟨g, k * 4 + 1, none⟩ (.int .i64 ((p : Int) + 1))) = W3 at *
  refine kU.mono ?_
  rintro e w4 ⟨rfl, rfl⟩
  go_wp2
  go_ret
  exact ⟨rfl, hM3, g3⟩
set_option maxHeartbeats 8000000 in
set_option maxRecDepth 100000 in
theorem step_stay (g k p b off n c : Nat) (a : Nat) (z : Int) (cs : Sl × Sl × Sl) (m : V4) (w : World) (hk : k < 3) (hp : p < n) (hp6 : p ≤ 6) (hL : LenOk m) (hM : Blk w g 88 (machR fv cs.1.val cs.2.1.val cs.2.2.val m)) (hg : g ≠ b ∨ True)
    (e0 : w.cell? ⟨g, k * 4, none⟩ = some (.slice (some ⟨b, off, none⟩) n c)) (e1 : w.cell? ⟨g, k * 4 + 1, none⟩ = some (.int .i64 p)) (q0 : w.cell? ⟨b, off + p * 3, none⟩ = some (.int .i64 7)) (q1 : w.cell? ⟨b, off + p * 3 + 1, none⟩ = some (.int .i64 a)) (q2 : w.cell? ⟨b, off + p * 3 + 2, none⟩ = some (.int .i64 z)) (ha : a < 2) (hvv : m.2.2.2.getD (k * 2 + a) 0 = 0) :
    Calls Tryd.prog 59 #[.pointer (some ⟨g, 0, none⟩), .int .i64 k] w fun e w' => e = .returned (.int .i64 0) ∧ Blk w' g 88 (machR fv cs.1.val cs.2.1.val cs.2.2.val (m.1.set k ((p : Int) + 1), m.2)) ∧ w.grownBy w' (some g) := by
  have hk3 : (k : Int) < 3 := by omega
  have hpn : (p : Int) < (n : Int) := by omega
  go_enter Tryd.func59, Tryd.ntmps59
  go_wp2_with fail
  refine wp_region_held_drew (S := (fun w' => w'.cell? ⟨g, k * 4, none⟩ = some (.slice (some ⟨b, off, none⟩) n c) ∧ w'.cell? ⟨g, k * 4 + 1, none⟩ = some (.int .i64 p) ∧ w'.cell? ⟨b, off + p * 3, none⟩ = some (.int .i64 7) ∧ w'.cell? ⟨b, off + p * 3 + 1, none⟩ = some (.int .i64 a) ∧ w'.cell? ⟨b, off + p * 3 + 2, none⟩ = some (.int .i64 z))) (by kernel_rfl) ⟨e0, e1, q0, q1, q2⟩ (fun hS0 => ?_)
  refine wpAnyH_take (i := 0) (oi := { dst := some 12, op := _, type := _, pos := _, after := _, guard := _ }) (v := .pointer (some ⟨g, k * 4, none⟩)) rfl (by kernel_rfl) (by kernel_rfl) (by kernel_rfl) (fun _ _ _ h => h) (Or.inl ⟨by rfl, ?_⟩) (by assumption) ?_
  · (intro w' hSw; (try dsimp only at hSw); go_simp; try rfl)
  simp only [Act.put, List.setIfInBounds_toArray, List.set_cons_zero, List.set_cons_succ]
  refine wpAnyH_take (i := 1) (oi := { dst := some 13, op := _, type := _, pos := _, after := _, guard := _ }) (v := .pointer (some ⟨g, k * 4, none⟩)) rfl (by kernel_rfl) (by kernel_rfl) (by kernel_rfl) (fun _ _ _ h => h) (Or.inl ⟨by rfl, ?_⟩) (by assumption) ?_
  · (intro w' hSw; (try dsimp only at hSw); go_simp; try rfl)
  simp only [Act.put, List.setIfInBounds_toArray, List.set_cons_zero, List.set_cons_succ]
  refine wpAnyH_take (i := 2) (oi := { dst := some 14, op := _, type := _, pos := _, after := _, guard := _ }) (v := .pointer (some ⟨g, k * 4, none⟩)) rfl (by kernel_rfl) (by kernel_rfl) (by kernel_rfl) (fun _ _ _ h => h) (Or.inl ⟨by rfl, ?_⟩) (by assumption) ?_
  · (intro w' hSw; (try dsimp only at hSw); go_simp; try rfl)
  simp only [Act.put, List.setIfInBounds_toArray, List.set_cons_zero, List.set_cons_succ]
  refine wpAnyH_take (i := 3) (oi := { dst := some 15, op := _, type := _, pos := _, after := _, guard := _ }) (v := .slice (some ⟨b, off, none⟩) n c) rfl (by kernel_rfl) (by kernel_rfl) (by kernel_rfl) (fun _ _ _ h => h) (Or.inl ⟨by rfl, ?_⟩) (by assumption) ?_
  · (intro w' hSw; (try dsimp only at hSw); go_simp; try rfl)
  simp only [Act.put, List.setIfInBounds_toArray, List.set_cons_zero, List.set_cons_succ]
  refine wpAnyH_take (i := 4) (oi := { dst := some 16, op := _, type := _, pos := _, after := _, guard := _ }) (v := .pointer (some ⟨g, k * 4, none⟩)) rfl (by kernel_rfl) (by kernel_rfl) (by kernel_rfl) (fun _ _ _ h => h) (Or.inl ⟨by rfl, ?_⟩) (by assumption) ?_
  · (intro w' hSw; (try dsimp only at hSw); go_simp; try rfl)
  simp only [Act.put, List.setIfInBounds_toArray, List.set_cons_zero, List.set_cons_succ]
  refine wpAnyH_take (i := 5) (oi := { dst := some 17, op := _, type := _, pos := _, after := _, guard := _ }) (v := .pointer (some ⟨g, k * 4, none⟩)) rfl (by kernel_rfl) (by kernel_rfl) (by kernel_rfl) (fun _ _ _ h => h) (Or.inl ⟨by rfl, ?_⟩) (by assumption) ?_
  · (intro w' hSw; (try dsimp only at hSw); go_simp; try rfl)
  simp only [Act.put, List.setIfInBounds_toArray, List.set_cons_zero, List.set_cons_succ]
  refine wpAnyH_take (i := 6) (oi := { dst := some 18, op := _, type := _, pos := _, after := _, guard := _ }) (v := .pointer (some ⟨g, k * 4 + 1, none⟩)) rfl (by kernel_rfl) (by kernel_rfl) (by kernel_rfl) (fun _ _ _ h => h) (Or.inl ⟨by rfl, ?_⟩) (by assumption) ?_
  · (intro w' hSw; (try dsimp only at hSw); go_simp; try rfl)
  simp only [Act.put, List.setIfInBounds_toArray, List.set_cons_zero, List.set_cons_succ]
  refine wpAnyH_take (i := 7) (oi := { dst := some 19, op := _, type := _, pos := _, after := _, guard := _ }) (v := .int .i64 p) rfl (by kernel_rfl) (by kernel_rfl) (by kernel_rfl) (fun _ _ _ h => h) (Or.inl ⟨by rfl, ?_⟩) (by assumption) ?_
  · (intro w' hSw; (try dsimp only at hSw); go_simp; try rfl)
  simp only [Act.put, List.setIfInBounds_toArray, List.set_cons_zero, List.set_cons_succ]
  refine wpAnyH_take (i := 8) (oi := { dst := some 20, op := _, type := _, pos := _, after := _, guard := _ }) (v := .pointer (some ⟨b, off + p * 3, none⟩)) rfl (by kernel_rfl) (by kernel_rfl) (by kernel_rfl) (fun _ _ _ h => h) (Or.inl ⟨by rfl, ?_⟩) (by assumption) ?_
  · (intro w' hSw; (try dsimp only at hSw); go_simp; try rfl)
  simp only [Act.put, List.setIfInBounds_toArray, List.set_cons_zero, List.set_cons_succ]
  refine wpAnyH_take (i := 9) (oi := { dst := some 21, op := _, type := _, pos := _, after := _, guard := _ }) (v := .agg #[.int .i64 7, .int .i64 a, .int .i64 z]) rfl (by kernel_rfl) (by kernel_rfl) (by kernel_rfl) (fun _ _ _ h => h) (Or.inl ⟨by rfl, ?_⟩) (by assumption) ?_
  · (intro w' hSw; (try dsimp only at hSw); go_simp; try rfl)
  simp only [Act.put, List.setIfInBounds_toArray, List.set_cons_zero, List.set_cons_succ]
  refine wpAnyH_ready (rs := [10]) (by kernel_rfl) (by simp) ?_
  refine AllReadyH.cons (o := { dst := some 6, op := _, type := _, pos := _, after := _, guard := _ }) rfl (fun K hK => ?_) AllReadyH.nil
  have hal : Below w.drew.heap.size w.drew (w.drew.alloc (.cells #[.int .i64 0, .int .i64 0, .int .i64 0] 125)) := by go_grown
  go_simp
  refine hK.out _ _ ?_ (fun hS1 => ?_)
  · exact ⟨cells_kept hal _ _ hS0.1, cells_kept hal _ _ hS0.2.1, cells_kept hal _ _ hS0.2.2.1, cells_kept hal _ _ hS0.2.2.2.1, cells_kept hal _ _ hS0.2.2.2.2⟩
  clear hK
  try simp only [Act.put, List.setIfInBounds_toArray, List.set_cons_zero, List.set_cons_succ]
  refine wpAnyH_ready (rs := [11]) (by kernel_rfl) (by simp) ?_
  refine AllReadyH.cons (o := { dst := none, op := _, type := _, pos := _, after := _, guard := _ }) rfl (fun K hK => ?_) AllReadyH.nil
  have hal2 : Below w.drew.heap.size w.drew (w.drew.alloc (.cells #[.int .i64 7, .int .i64 a, .int .i64 z] 125)) := by go_grown
  go_simp
  refine hK.out _ _ ?_ (fun hS2 => ?_)
  · exact ⟨cells_kept hal2 _ _ hS0.1, cells_kept hal2 _ _ hS0.2.1, cells_kept hal2 _ _ hS0.2.2.1, cells_kept hal2 _ _ hS0.2.2.2.1, cells_kept hal2 _ _ hS0.2.2.2.2⟩
  clear hK
  try simp only [Act.put, List.setIfInBounds_toArray, List.set_cons_zero, List.set_cons_succ]
  refine wpAnyH_done (by kernel_rfl) ?_ _
  clear hal hal2 hS0 hS1 hS2
  have bx : Below w.heap.size w (w.alloc (.cells #[.int .i64 7, .int .i64 a, .int .i64 z] 125)).drew := by go_grown
  have pX : Blk (w.alloc (.cells #[.int .i64 7, .int .i64 a, .int .i64 z] 125)).drew w.heap.size 125 [.int .i64 7, .int .i64 a, .int .i64 z] := Blk.new w 125 [.int .i64 7, .int .i64 a, .int .i64 z]
  have hgl := hM.lt
  replace hM := hM.below bx
  replace e1 := cells_kept bx _ _ e1
  have gx : w.grownBy (w.alloc (.cells #[.int .i64 7, .int .i64 a, .int .i64 z] 125)).drew (some g) := grown_new bx
  clear bx e0 q0 q1 q2
  generalize hW2 : (w.alloc (.cells #[.int .i64 7, .int .i64 a, .int .i64 z] 125)).drew = W2 at *
  clear hW2
  have hne : w.heap.size ≠ g := by omega
  generalize w.heap.size = gX at *
  have f1 := hM.frozen (k * 4 + 1)
  have hM3 := hM.set (k * 4 + 1) (.int .i64 ((p : Int) + 1))
  rw [mt_pc _ _ _ _ hL hk] at hM3
  have pX3 := pX.off ⟨g, k * 4 + 1, none⟩ (.int .i64 ((p : Int) + 1)) hne
  have g3 := grown_tr gx (grown_cell W2 g (k * 4 + 1) (.int .i64 ((p : Int) + 1)))
  have u0 := pX3.cell 0
  have u1 := pX3.cell 1
  have u2 := pX3.cell 2
  simp only [List.getElem?_cons_zero, List.getElem?_cons_succ] at u0 u1 u2
  have r1 : (W2.setCell ⟨g, k * 4 + 1, none⟩ (.int .i64 ((p : Int) + 1))).cell? ⟨g, k * 4 + 2 + a, none⟩ = some (.int .i64 0) := (hM3.cell _).trans ((mc_reg _ _ _ _ hk ha).trans (congrArg (fun z => some (Value.int .i64 z)) hvv))
  have ha2 : (a : Int) < 2 := by omega

  have hpw : IntKind.i64.wrap ((p : Int) + 1) = (p : Int) + 1 := IntWalk.i64_in _ (by omega)
  clear hM gx pX
  clear hvv pX3
  go_wp2_with fail
  generalize (W2.setCell ⟨g, k * 4 + 1, none⟩ (.int .i64 ((p : Int) + 1))) = W3 at *
  go_quiet (fail)
  go_wp2
  go_ret
  exact ⟨rfl, hM3, grown_drewN g3 _⟩
end Rp
end Go.Proofs.YtmhngodbnoonhaaDoor

