/-
  Joined: RqE, SpcH, KeyI.
-/
import Derived.Test.YtcdpcfnlflpjnaaGreatDoorProg
import Derived.Deep.RegionHeld3
import Derived.KernelRfl
import Derived.Tactics
import Derived.WalkKit
import Derived.WalkSpells
import Derived.WalkLawsBesides
import Derived.RegionTactic
import Derived.BigQuiet
import Derived.Deep.QuietTactic
import Derived.Deep.Slices
import Derived.Deep.Strs
import Derived.Deep.Fields
import Derived.ChangeSame
import Derived.Handy
import Derived.OwnWalk
import Derived.ChangeSlices
import Derived.Lib.SmallJoins
import Derived.Shelf.Abstract
import Derived.Laws.BytesArg
import Derived.Deep.RegionLaw
import Derived.Laws.OwnMore
import Derived.Laws.CopyOwn
import Derived.Laws.Tables
import Derived.BigRegion
import Derived.Maps.AppendAt
import Derived.Stop.Asserts
import Derived.Recover
import Derived.Laws.RangeString
import Derived.Laws.RangeAny
import Derived.Laws.Bits
import Derived.Lib.FieldsP
import Derived.Shelf.SlSortCmp.NoneTotal
import Derived.Shelf.Spec.SlicesGrow
import Derived.Laws.AppendOwnNone
import Derived.Lib.SliceRun
import Derived.Deep.MidRow
import Derived.Maps.OwnSet
import Derived.Test.YtcdpcfnlflpjnaaGreatDoorK01
import Derived.Test.YtcdpcfnlflpjnaaGreatDoorK02
import Derived.Test.YtcdpcfnlflpjnaaGreatDoorK04
import Derived.Test.YtcdpcfnlflpjnaaGreatDoorK05
import Derived.Test.YtcdpcfnlflpjnaaGreatDoorK07
import Derived.Test.YtcdpcfnlflpjnaaGreatDoorK08
import Derived.Test.YtcdpcfnlflpjnaaGreatDoorK09
import Derived.Test.YtcdpcfnlflpjnaaGreatDoorK10
import Derived.Test.YtcdpcfnlflpjnaaGreatDoorK11
import Derived.Test.YtcdpcfnlflpjnaaGreatDoorK12
import Derived.Test.YtcdpcfnlflpjnaaGreatDoorK13
import Derived.Test.YtcdpcfnlflpjnaaGreatDoorK14
import Derived.Test.YtcdpcfnlflpjnaaGreatDoorK23
import Derived.Test.YtcdpcfnlflpjnaaGreatDoorK25
import Derived.Test.YtcdpcfnlflpjnaaGreatDoorK29
import Derived.Test.YtcdpcfnlflpjnaaGreatDoorK31
import Derived.Test.YtcdpcfnlflpjnaaGreatDoorK32
import Derived.Test.YtcdpcfnlflpjnaaGreatDoorK37
import Derived.Test.YtcdpcfnlflpjnaaGreatDoorK38

/-
  A machine that lies inside the record of a state: who is done, who waits, who can go on, whether nobody can.
-/
namespace Go.Proofs.YtcdpcfnlflpjnaaGreatDoor
namespace Rq
open Go.RowKit
set_option linter.unusedVariables false
set_option linter.unusedSimpArgs false

def MachAt (w : World) (g : Nat) (cs : Sl × Sl × Sl) (rows : List (List I3)) (m : V4) : Prop :=
  (∃ kv fv bv mv : Value, Blk w g 89 (kv :: (machCells cs.1.val cs.2.1.val cs.2.2.val m ++ [fv, bv, mv]))) ∧ ∀ k, k < 3 → Instrs w (slK cs k).1 (slK cs k).2.1 (slK cs k).2.2 (codeM rows k)
theorem MachAt.below {w w' : World} {g : Nat} {cs : Sl × Sl × Sl} {rows : List (List I3)} {m : V4} (h : MachAt w g cs rows m) (hb : Below w.heap.size w w') : MachAt w' g cs rows m := by
  obtain ⟨⟨kv, fv, bv, mv, h1⟩, h2⟩ := h
  exact ⟨⟨kv, fv, bv, mv, h1.below hb⟩, fun k hk => (h2 k hk).below hb⟩
theorem MachAt.at18 {w : World} {g : Nat} {cs : Sl × Sl × Sl} {rows : List (List I3)} {m : V4} (h : MachAt w g cs rows m) {i : Nat} (hi : i < 18) : w.cell? ⟨g, 1 + i, none⟩ = (machCells cs.1.val cs.2.1.val cs.2.2.val m)[i]? := by
  obtain ⟨⟨kv, fv, bv, mv, h1⟩, _⟩ := h
  rw [h1.cell, Nat.add_comm 1 i, List.getElem?_cons_succ, List.getElem?_append_left (show i < (machCells cs.1.val cs.2.1.val cs.2.2.val m).length from hi)]
theorem MachAt.code {w : World} {g : Nat} {cs : Sl × Sl × Sl} {rows : List (List I3)} {m : V4} (h : MachAt w g cs rows m) {k : Nat} (hk : k < 3) : w.cell? ⟨g, 1 + k * 4, none⟩ = some (.slice (slK cs k).1 (slK cs k).2.1 (slK cs k).2.2) := by
  rw [h.at18 (by omega), mc_code _ _ _ _ hk, codeV_sl cs hk]; rfl
theorem MachAt.pc {w : World} {g : Nat} {cs : Sl × Sl × Sl} {rows : List (List I3)} {m : V4} (h : MachAt w g cs rows m) {k : Nat} (hk : k < 3) : w.cell? ⟨g, 1 + k * 4 + 1, none⟩ = some (.int .i64 (m.1.getD k 0)) := by
  rw [show 1 + k * 4 + 1 = 1 + (k * 4 + 1) by omega, h.at18 (by omega), mc_pc _ _ _ _ hk]
theorem MachAt.held {w : World} {g : Nat} {cs : Sl × Sl × Sl} {rows : List (List I3)} {m : V4} (h : MachAt w g cs rows m) {a : Nat} (ha : a < 2) : w.cell? ⟨g, 17 + a, none⟩ = some (.int .i64 (m.2.2.1.getD a 0)) := by
  rw [show 17 + a = 1 + (16 + a) by omega, h.at18 (by omega), mc_held _ _ _ _ ha]
set_option maxHeartbeats 2000000 in
set_option maxRecDepth 100000 in
theorem waits_done (g k : Nat) (a : Option Addr) (n c : Nat) (pc : Int) (w : World) (hk : k < 3) (h0 : w.cell? ⟨g, 1 + k * 4, none⟩ = some (.slice a n c)) (h1 : w.cell? ⟨g, 1 + k * 4 + 1, none⟩ = some (.int .i64 pc)) (hd : (n : Int) ≤ pc) :
    Calls Tryz.prog 48 #[.pointer (some ⟨g, 1, none⟩), .int .i64 k] w fun e w' => e = .returned (.bool false) ∧ Below w.heap.size w w' := by
  have kD := done_is g (1 + k * 4) a n c pc w h0 h1
  rw [decide_eq_true hd] at kD
  have hk3 : (k : Int) < 3 := by omega
  go_enter Tryz.func48, Tryz.ntmps48
  go_wp2_with fail
  refine kD.mono ?_
  rintro e w1 ⟨rfl, d, rfl⟩
  go_wp2
  go_ret
  exact ⟨rfl, below_dN _⟩
set_option maxHeartbeats 4000000 in
set_option maxRecDepth 100000 in
theorem waits_free (g k p b off : Nat) (n c : Nat) (x0 x1 x2 : Int) (w : World) (hk : k < 3) (hd : p < n)
    (h0 : w.cell? ⟨g, 1 + k * 4, none⟩ = some (.slice (some ⟨b, off, none⟩) n c)) (h1 : w.cell? ⟨g, 1 + k * 4 + 1, none⟩ = some (.int .i64 p)) (c0 : w.cell? ⟨b, off + p * 3, none⟩ = some (.int .i64 x0)) (c1 : w.cell? ⟨b, off + p * 3 + 1, none⟩ = some (.int .i64 x1)) (c2 : w.cell? ⟨b, off + p * 3 + 2, none⟩ = some (.int .i64 x2)) (hx : x0 ≠ 5) :
    Calls Tryz.prog 48 #[.pointer (some ⟨g, 1, none⟩), .int .i64 k] w fun e w' => e = .returned (.bool false) ∧ Below w.heap.size w w' := by
  have kD := done_is g (1 + k * 4) (some ⟨b, off, none⟩) n c p w h0 h1
  rw [decide_eq_false (by omega)] at kD
  have hk3 : (k : Int) < 3 := by omega
  have hpn : (p : Int) < (n : Int) := by omega
  go_enter Tryz.func48, Tryz.ntmps48
  go_wp2_with fail
  refine kD.mono ?_
  rintro e w1 ⟨rfl, d, rfl⟩
  clear kD
  go_wp2_with fail
  replace h0 : (w.drewN d).cell? ⟨g, 1 + k * 4, none⟩ = some (.slice (some ⟨b, off, none⟩) n c) := h0
  replace h1 : (w.drewN d).cell? ⟨g, 1 + k * 4 + 1, none⟩ = some (.int .i64 p) := h1
  replace c0 : (w.drewN d).cell? ⟨b, off + p * 3, none⟩ = some (.int .i64 x0) := c0
  replace c1 : (w.drewN d).cell? ⟨b, off + p * 3 + 1, none⟩ = some (.int .i64 x1) := c1
  replace c2 : (w.drewN d).cell? ⟨b, off + p * 3 + 2, none⟩ = some (.int .i64 x2) := c2
  have bw : Below w.heap.size w (w.drewN d) := below_dN _
  generalize w.drewN d = W at *
  refine wp_region_held_drew (S := (fun w' => w'.cell? ⟨g, 1 + k * 4, none⟩ = some (.slice (some ⟨b, off, none⟩) n c) ∧ w'.cell? ⟨g, 1 + k * 4 + 1, none⟩ = some (.int .i64 p) ∧ w'.cell? ⟨b, off + p * 3, none⟩ = some (.int .i64 x0) ∧ w'.cell? ⟨b, off + p * 3 + 1, none⟩ = some (.int .i64 x1) ∧ w'.cell? ⟨b, off + p * 3 + 2, none⟩ = some (.int .i64 x2))) (by kernel_rfl) ⟨h0, h1, c0, c1, c2⟩ (fun hS0 => ?_)
  refine tkm 0 14 (.pointer (some ⟨g, 1 + k * 4, none⟩)) ?_
  refine tkm 1 15 (.pointer (some ⟨g, 1 + k * 4, none⟩)) ?_
  refine tkm 2 16 (.pointer (some ⟨g, 1 + k * 4, none⟩)) ?_
  refine tkm 3 17 (.slice (some ⟨b, off, none⟩) n c) ?_
  refine tkm 4 18 (.pointer (some ⟨g, 1 + k * 4, none⟩)) ?_
  refine tkm 5 19 (.pointer (some ⟨g, 1 + k * 4, none⟩)) ?_
  refine tkm 6 20 (.pointer (some ⟨g, 1 + k * 4 + 1, none⟩)) ?_
  refine tkm 7 21 (.int .i64 p) ?_
  refine tkm 8 22 (.pointer (some ⟨b, off + p * 3, none⟩)) ?_
  refine tkm 9 23 (.agg #[.int .i64 x0, .int .i64 x1, .int .i64 x2]) ?_
  refine tkr 10 6 (fun K hK => ?_)
  have hal : Below W.drew.heap.size W.drew (W.drew.alloc (.cells #[.int .i64 0, .int .i64 0, .int .i64 0] 129)) := by go_grown
  go_simp
  refine hK.out _ _ ?_ (fun hS1 => ?_)
  · exact ⟨cells_kept hal _ _ hS0.1, cells_kept hal _ _ hS0.2.1, cells_kept hal _ _ hS0.2.2.1, cells_kept hal _ _ hS0.2.2.2.1, cells_kept hal _ _ hS0.2.2.2.2⟩
  clear hK
  try simp only [Act.put, List.setIfInBounds_toArray, List.set_cons_zero, List.set_cons_succ]
  refine wpAnyH_ready (rs := [11]) (by kernel_rfl) (by simp) ?_
  refine AllReadyH.cons (o := { dst := none, op := _, type := _, pos := _, after := _, guard := _ }) rfl (fun K hK => ?_) AllReadyH.nil
  have hal2 : Below W.drew.heap.size W.drew (W.drew.alloc (.cells #[.int .i64 x0, .int .i64 x1, .int .i64 x2] 129)) := by go_grown
  go_simp
  refine hK.out _ _ ?_ (fun hS2 => ?_)
  · exact ⟨cells_kept hal2 _ _ hS0.1, cells_kept hal2 _ _ hS0.2.1, cells_kept hal2 _ _ hS0.2.2.1, cells_kept hal2 _ _ hS0.2.2.2.1, cells_kept hal2 _ _ hS0.2.2.2.2⟩
  clear hK
  try simp only [Act.put, List.setIfInBounds_toArray, List.set_cons_zero, List.set_cons_succ]
  refine wpAnyH_done (by kernel_rfl) ?_ _
  replace bw : Below w.heap.size w (W.alloc (.cells #[.int .i64 x0, .int .i64 x1, .int .i64 x2] 129)).drew := bel_trans bw (by go_grown)
  have pX : Blk (W.alloc (.cells #[.int .i64 x0, .int .i64 x1, .int .i64 x2] 129)).drew W.heap.size 129 [.int .i64 x0, .int .i64 x1, .int .i64 x2] := Blk.new W 129 [.int .i64 x0, .int .i64 x1, .int .i64 x2]
  have q0 := pX.cell 0
  have q1 := pX.cell 1
  simp only [List.getElem?_cons_zero, List.getElem?_cons_succ] at q0 q1
  clear hal hal2 hS0 hS1 h0 h1 c0 c1 c2 pX
  clear hS2
  have hx5 : (x0 == 5) = false := by simp [hx]
  go_wp2_with fail
  generalize (W.alloc (.cells #[.int .i64 x0, .int .i64 x1, .int .i64 x2] 129)).drew = W2 at *
  generalize W.heap.size = gx at *
  go_quiet (fail)
  have bz : Below w.heap.size w (W2.drewN nq) := bel_trans bw (below_dN _)
  go_wp2
  go_ret
  exact ⟨rfl, bz⟩
set_option maxHeartbeats 4000000 in
set_option maxRecDepth 100000 in
theorem waits_lock (g k p b off : Nat) (n c : Nat) (x2 : Int) (q : Nat) (hv : Int) (w : World) (hk : k < 3) (hd : p < n)
    (h0 : w.cell? ⟨g, 1 + k * 4, none⟩ = some (.slice (some ⟨b, off, none⟩) n c)) (h1 : w.cell? ⟨g, 1 + k * 4 + 1, none⟩ = some (.int .i64 p)) (c0 : w.cell? ⟨b, off + p * 3, none⟩ = some (.int .i64 5)) (c1 : w.cell? ⟨b, off + p * 3 + 1, none⟩ = some (.int .i64 q)) (c2 : w.cell? ⟨b, off + p * 3 + 2, none⟩ = some (.int .i64 x2)) (h6 : w.cell? ⟨g, 17 + q, none⟩ = some (.int .i64 hv)) (hq : q < 2) (z : Bool) (hz : z = !decide (hv = 0)) :
    Calls Tryz.prog 48 #[.pointer (some ⟨g, 1, none⟩), .int .i64 k] w fun e w' => e = .returned (.bool z) ∧ Below w.heap.size w w' := by
  have kD := done_is g (1 + k * 4) (some ⟨b, off, none⟩) n c p w h0 h1
  rw [decide_eq_false (by omega)] at kD
  have hk3 : (k : Int) < 3 := by omega
  have hpn : (p : Int) < (n : Int) := by omega
  go_enter Tryz.func48, Tryz.ntmps48
  go_wp2_with fail
  refine kD.mono ?_
  rintro e w1 ⟨rfl, d, rfl⟩
  clear kD
  go_wp2_with fail
  replace h0 : (w.drewN d).cell? ⟨g, 1 + k * 4, none⟩ = some (.slice (some ⟨b, off, none⟩) n c) := h0
  replace h1 : (w.drewN d).cell? ⟨g, 1 + k * 4 + 1, none⟩ = some (.int .i64 p) := h1
  replace c0 : (w.drewN d).cell? ⟨b, off + p * 3, none⟩ = some (.int .i64 5) := c0
  replace c1 : (w.drewN d).cell? ⟨b, off + p * 3 + 1, none⟩ = some (.int .i64 q) := c1
  replace c2 : (w.drewN d).cell? ⟨b, off + p * 3 + 2, none⟩ = some (.int .i64 x2) := c2
  replace h6 : (w.drewN d).cell? ⟨g, 17 + q, none⟩ = some (.int .i64 hv) := h6
  have bw : Below w.heap.size w (w.drewN d) := below_dN _
  generalize w.drewN d = W at *
  refine wp_region_held_drew (S := (fun w' => w'.cell? ⟨g, 1 + k * 4, none⟩ = some (.slice (some ⟨b, off, none⟩) n c) ∧ w'.cell? ⟨g, 1 + k * 4 + 1, none⟩ = some (.int .i64 p) ∧ w'.cell? ⟨b, off + p * 3, none⟩ = some (.int .i64 5) ∧ w'.cell? ⟨b, off + p * 3 + 1, none⟩ = some (.int .i64 q) ∧ w'.cell? ⟨b, off + p * 3 + 2, none⟩ = some (.int .i64 x2) ∧ w'.cell? ⟨g, 17 + q, none⟩ = some (.int .i64 hv))) (by kernel_rfl) ⟨h0, h1, c0, c1, c2, h6⟩ (fun hS0 => ?_)
  refine tkm 0 14 (.pointer (some ⟨g, 1 + k * 4, none⟩)) ?_
  refine tkm 1 15 (.pointer (some ⟨g, 1 + k * 4, none⟩)) ?_
  refine tkm 2 16 (.pointer (some ⟨g, 1 + k * 4, none⟩)) ?_
  refine tkm 3 17 (.slice (some ⟨b, off, none⟩) n c) ?_
  refine tkm 4 18 (.pointer (some ⟨g, 1 + k * 4, none⟩)) ?_
  refine tkm 5 19 (.pointer (some ⟨g, 1 + k * 4, none⟩)) ?_
  refine tkm 6 20 (.pointer (some ⟨g, 1 + k * 4 + 1, none⟩)) ?_
  refine tkm 7 21 (.int .i64 p) ?_
  refine tkm 8 22 (.pointer (some ⟨b, off + p * 3, none⟩)) ?_
  refine tkm 9 23 (.agg #[.int .i64 5, .int .i64 q, .int .i64 x2]) ?_
  refine tkr 10 6 (fun K hK => ?_)
  have hal : Below W.drew.heap.size W.drew (W.drew.alloc (.cells #[.int .i64 0, .int .i64 0, .int .i64 0] 129)) := by go_grown
  go_simp
  refine hK.out _ _ ?_ (fun hS1 => ?_)
  · exact ⟨cells_kept hal _ _ hS0.1, cells_kept hal _ _ hS0.2.1, cells_kept hal _ _ hS0.2.2.1, cells_kept hal _ _ hS0.2.2.2.1, cells_kept hal _ _ hS0.2.2.2.2.1, cells_kept hal _ _ hS0.2.2.2.2.2⟩
  clear hK
  try simp only [Act.put, List.setIfInBounds_toArray, List.set_cons_zero, List.set_cons_succ]
  refine wpAnyH_ready (rs := [11]) (by kernel_rfl) (by simp) ?_
  refine AllReadyH.cons (o := { dst := none, op := _, type := _, pos := _, after := _, guard := _ }) rfl (fun K hK => ?_) AllReadyH.nil
  have hal2 : Below W.drew.heap.size W.drew (W.drew.alloc (.cells #[.int .i64 5, .int .i64 q, .int .i64 x2] 129)) := by go_grown
  go_simp
  refine hK.out _ _ ?_ (fun hS2 => ?_)
  · exact ⟨cells_kept hal2 _ _ hS0.1, cells_kept hal2 _ _ hS0.2.1, cells_kept hal2 _ _ hS0.2.2.1, cells_kept hal2 _ _ hS0.2.2.2.1, cells_kept hal2 _ _ hS0.2.2.2.2.1, cells_kept hal2 _ _ hS0.2.2.2.2.2⟩
  clear hK
  try simp only [Act.put, List.setIfInBounds_toArray, List.set_cons_zero, List.set_cons_succ]
  refine wpAnyH_done (by kernel_rfl) ?_ _
  replace bw : Below w.heap.size w (W.alloc (.cells #[.int .i64 5, .int .i64 q, .int .i64 x2] 129)).drew := bel_trans bw (by go_grown)
  have pX : Blk (W.alloc (.cells #[.int .i64 5, .int .i64 q, .int .i64 x2] 129)).drew W.heap.size 129 [.int .i64 5, .int .i64 q, .int .i64 x2] := Blk.new W 129 [.int .i64 5, .int .i64 q, .int .i64 x2]
  have q0 := pX.cell 0
  have q1 := pX.cell 1
  simp only [List.getElem?_cons_zero, List.getElem?_cons_succ] at q0 q1
  clear hal hal2 hS0 hS1 h0 h1 c0 c1 c2 h6 pX
  replace hS2 := hS2.2.2.2.2.2
  have hq2 : (q : Int) < 2 := by omega
  have hv0 : (hv != 0) = z := by rw [hz]; by_cases h : hv = 0 <;> simp [h]
  clear hz
  go_wp2_with fail
  generalize (W.alloc (.cells #[.int .i64 5, .int .i64 q, .int .i64 x2] 129)).drew = W2 at *
  generalize W.heap.size = gx at *
  go_quiet (fail)
  have bz : Below w.heap.size w (W2.drewN nq) := bel_trans bw (below_dN _)
  go_wp2
  go_ret
  exact ⟨rfl, bz⟩
theorem doneT_is {w : World} {g : Nat} {cs : Sl × Sl × Sl} {rows : List (List I3)} {m : V4} (h : MachAt w g cs rows m) {k : Nat} (hk : k < 3) :
    Calls Tryz.prog 46 #[.pointer (some ⟨g, 1 + k * 4, none⟩)] w fun e w' => e = .returned (.bool (doneM rows m k)) ∧ ∃ d, w' = w.drewN d := by
  have hl := (h.2 k hk).1
  have := done_is g (1 + k * 4) _ _ _ _ w (h.code hk) (h.pc hk)
  unfold doneM
  rw [hl]
  exact this
theorem waits_is {w : World} {g : Nat} {cs : Sl × Sl × Sl} {rows : List (List I3)} {m : V4} (h : MachAt w g cs rows m) (hp : progOk rows = true) (hs : shapeOk m = true) {k : Nat} (hk : k < 3) :
    Calls Tryz.prog 48 #[.pointer (some ⟨g, 1, none⟩), .int .i64 k] w fun e w' => e = .returned (.bool (waitM rows m k)) ∧ Below w.heap.size w w' := by
  unfold waitM
  cases hd : doneM rows m k
  · obtain ⟨p, ep, hlt, hi, hok⟩ := at_ins hp hs hk hd
    have h0 := h.code hk
    have h1 := h.pc hk
    rw [ep] at h1
    obtain ⟨b, off, ea, hpn, c0, c1, c2⟩ := ins_at (h.2 k hk) hlt
    rw [← hi] at c0 c1 c2
    rw [ea] at h0
    by_cases h5 : (insM rows m k).1 = 5
    · obtain ⟨q, hq, hq2⟩ := okI_lock hok h5
      rw [h5] at c0
      rw [hq] at c1
      have hh := h.held hq2
      have e : atLock m (insM rows m k) = !decide (m.2.2.1.getD q 0 = 0) := by
        unfold atLock
        rw [h5, hq]
        simp
      rw [e]
      exact waits_lock g k p b off _ _ _ q _ w hk hpn h0 h1 c0 c1 c2 hh hq2 _ rfl
    · have e : atLock m (insM rows m k) = false := by unfold atLock; simp [h5]
      rw [e]
      exact waits_free g k p b off _ _ _ _ _ w hk hpn h0 h1 c0 c1 c2 h5
  · have h0 := h.code hk
    have h1 := h.pc hk
    unfold doneM at hd
    simp only [decide_eq_true_eq] at hd
    rw [(h.2 k hk).1] at hd
    exact waits_done g k _ _ _ _ w hk h0 h1 hd
set_option maxHeartbeats 4000000 in
set_option maxRecDepth 100000 in
theorem enabled_is (g : Nat) (cs : Sl × Sl × Sl) (rows : List (List I3)) (m : V4) (w : World) (h : MachAt w g cs rows m) (hp : progOk rows = true) (hs : shapeOk m = true) :
    Calls Tryz.prog 44 #[.pointer (some ⟨g, 1, none⟩)] w fun e w' => (∃ s : Sl, e = .returned (.slice s.1 s.2.1 s.2.2) ∧ OwnI w' w.heap.size s (enabM rows m 3)) ∧ Below w.heap.size w w' := by
  obtain ⟨i0, hi, hz0, hz1, hz2⟩ := info_parts info_int
  have kD := fun (W : World) (hM : MachAt W g cs rows m) (k : Nat) (hk : k < 3) => doneT_is hM hk
  have kW := fun (W : World) (hM : MachAt W g cs rows m) (k : Nat) (hk : k < 3) => waits_is hM hp hs hk
  go_enter Tryz.func44, Tryz.ntmps44
  go_wp2_with fail
  go_loopw [3, 5] (fun so si wr => ∃ (k : Nat) (n : Nat) (v : Value), v = so ∧ k ≤ 3 ∧ si = .int .i64 k ∧ Hid (n = (enabM rows m k).length) ∧ wr.ownsRow w.heap.size 3 1 v n ((enabM rows m k).map (Value.int .i64)) ∧ Below w.heap.size w wr) (fun _ si _ => 3 - (intOf si).toNat)
  case atStart => exact ⟨0, 0, _, rfl, by omega, rfl, rfl, World.ownsRow_nil _ _ _ _, Below.refl _ _⟩
  case round =>
    obtain ⟨k, n, so, rfl, hk, rfl, HN, hr, hbw⟩ := hrel
    have hM := h.below hbw
    by_cases hlt : k < 3
    · have hk3 : (k : Int) < 3 := by omega
      have kD1 := kD _ hM k hlt
      have hsz := hbw.size
      cases hd : doneM rows m k
      · rw [hd] at kD1
        go_wp2_with fail
        refine kD1.mono ?_
        rintro e w1 ⟨rfl, d, rfl⟩
        replace hM : MachAt (wr.drewN d) g cs rows m := hM.below (below_dN _)
        replace hr : (wr.drewN d).ownsRow w.heap.size 3 1 so n ((enabM rows m k).map (Value.int .i64)) := hr
        replace hbw : Below w.heap.size w (wr.drewN d) := bel_trans hbw (below_dN _)
        replace hsz : w.heap.size ≤ (wr.drewN d).heap.size := hsz
        generalize wr.drewN d = W1 at *
        have kW1 := kW _ hM k hlt
        clear kD1
        cases hw : waitM rows m k
        · have hcan : canM rows m k = true := by
            unfold waitM at hw
            unfold canM
            rw [hd] at hw ⊢
            simpa using hw
          rw [hw] at kW1
          go_wp2_with fail
          refine kW1.mono ?_
          rintro e w2 ⟨rfl, hb⟩
          replace hM := hM.below hb
          replace hr := owns_below hr hb
          replace hbw := bel_trans hbw hb
          replace hsz := hbw.size
          clear hb kW1
          have hn3 : n ≤ 3 := by have := enabM_len rows m k; have := HN.out; omega
          have HN2 : Hid (n + 1 = (enabM rows m (k + 1)).length) := by rw [Hid, enabM_yes hcan, List.length_append, ← HN.out]; rfl
          have HX : Hid (enabM rows m (k + 1) = enabM rows m k ++ [(k : Int)]) := enabM_yes hcan
          go_wp2_with (at_builtin; refine wpList_append_own _ rfl _ _ 31 rfl w.heap.size 3 i0 (.int .i64 0) 1 8 Tryz.underlying31 hi hz0 hz1 hz2 rfl (by decide) _ _ _ rfl (hr.alloc _) ⟨w2.heap.size, 0, none⟩ 1 1 [.int .i64 (k : Int)] rfl rfl (cell_one_new _ _ _) (by simp [Value.oneCell']) ?c3 ?c4 ?c5 ?_)
          case c3 => unfold maxLen; omega
          case c4 => omega
          case c5 => simp; omega
          intro v' wn hown' hgrow _
          have R : wn.ownsRow w.heap.size 3 1 v' (n + 1) ((enabM rows m (k + 1)).map (Value.int .i64)) := by
            rw [HX.out, List.map_append]
            exact hown'
          have bn : Below w.heap.size w wn := (hbw.alloc hsz _).grown hgrow (by simp; omega) (fun k hk => (hr.lt k hk).1)
          clear hown' hgrow hr hbw hM HX
          go_wp2
          go_roundw
          case rel => exact ⟨k + 1, n + 1, _, rfl, by omega, by go_num, HN2, R, bn⟩
          case measure => simp [intOf]; omega
        · have hcan : canM rows m k = false := by
            unfold waitM at hw
            unfold canM
            rw [hd] at hw ⊢
            simpa using hw
          rw [hw] at kW1
          have HN2 : Hid (n = (enabM rows m (k + 1)).length) := by rw [Hid, enabM_no hcan]; exact HN.out
          rw [← enabM_no hcan] at hr
          go_wp2_with fail
          refine kW1.mono ?_
          rintro e w2 ⟨rfl, hb⟩
          replace hM := hM.below hb
          replace hr := owns_below hr hb
          replace hbw := bel_trans hbw hb
          clear hb kW1
          go_wp2
          go_roundw
          case rel => exact ⟨k + 1, n, _, rfl, by omega, by go_num, HN2, hr, hbw⟩
          case measure => simp [intOf]; omega
      · have hcan : canM rows m k = false := by unfold canM; rw [hd]; rfl
        rw [hd] at kD1
        have HN2 : Hid (n = (enabM rows m (k + 1)).length) := by rw [Hid, enabM_no hcan]; exact HN.out
        rw [← enabM_no hcan] at hr
        go_wp2_with fail
        refine kD1.mono ?_
        rintro e w1 ⟨rfl, d, rfl⟩
        replace hM : MachAt (wr.drewN d) g cs rows m := hM.below (below_dN _)
        replace hr : (wr.drewN d).ownsRow w.heap.size 3 1 so n ((enabM rows m (k + 1)).map (Value.int .i64)) := hr
        replace hbw : Below w.heap.size w (wr.drewN d) := bel_trans hbw (below_dN _)
        generalize wr.drewN d = W1 at *
        go_wp2
        go_roundw
        case rel => exact ⟨k + 1, n, _, rfl, by omega, by go_num, HN2, hr, hbw⟩
        case measure => simp [intOf]; omega
    · obtain rfl : k = 3 := by omega
      obtain ⟨a, c, rfl⟩ : ∃ a c, so = .slice a n c := by
        rcases hr.2 with ⟨rfl, rfl⟩ | ⟨g', cap, cur, hv, _⟩
        · exact ⟨none, 0, rfl⟩
        · exact ⟨_, cap, hv⟩
      clear kD kW hM
      go_wp2
      go_ret
      exact ⟨⟨(a, n, c), rfl, hr⟩, hbw⟩
set_option maxHeartbeats 4000000 in
set_option maxRecDepth 100000 in
theorem stuck_is (g : Nat) (cs : Sl × Sl × Sl) (rows : List (List I3)) (m : V4) (w : World) (h : MachAt w g cs rows m) (hp : progOk rows = true) (hs : shapeOk m = true) :
    Calls Tryz.prog 92 #[.pointer (some ⟨g, 1, none⟩)] w fun e w' => e = .returned (.bool (stuckM rows m)) ∧ Below w.heap.size w w' := by
  have kE := enabled_is g cs rows m w h hp hs
  have kD := fun (W : World) (hM : MachAt W g cs rows m) (k : Nat) (hk : k < 3) => doneT_is hM hk
  obtain ⟨fin, hfin⟩ : ∃ fin, fin = stuckM rows m := ⟨_, rfl⟩
  rw [← hfin]
  have HF : Hid (fin = (decide (enabM rows m 3 = []) && leftM rows m 0)) := hfin
  clear hfin
  go_enter Tryz.func92, Tryz.ntmps92
  go_wp2_with fail
  refine kE.mono ?_
  rintro e w1 ⟨⟨⟨a, n, c⟩, rfl, ho⟩, hb⟩
  have hn : (enabM rows m 3).length = n := by
    have := ho.1
    simpa using this
  clear ho kE
  simp only
  by_cases h0 : n = 0
  · subst h0
    have HL : Hid (fin = leftM rows m 0) := by rw [Hid, HF.out, List.eq_nil_of_length_eq_zero hn]; rfl
    clear HF hn
    go_wp2_with fail
    go_loopw [8] (fun si wr => ∃ k : Nat, k ≤ 3 ∧ si = .int .i64 k ∧ Hid (fin = leftM rows m k) ∧ Below w.heap.size w wr) (fun si _ => 3 - (intOf si).toNat)
    case atStart => exact ⟨0, by omega, rfl, HL, hb⟩
    case round =>
      clear hb HL
      obtain ⟨k, hk, rfl, HL, hbw⟩ := hrel
      by_cases hlt : k < 3
      · have hk3 : (k : Int) < 3 := by omega
        have kD1 := kD _ (h.below hbw) k hlt
        have hst := leftM_step rows m hlt
        have HS : Hid (leftM rows m k = (!doneM rows m k || leftM rows m (k + 1))) := hst
        clear hst
        cases hd : doneM rows m k
        · rw [hd] at kD1
          obtain rfl : fin = true := by rw [HL.out, HS.out, hd]; rfl
          clear HL HS
          go_wp2_with fail
          refine kD1.mono ?_
          rintro e w2 ⟨rfl, d, rfl⟩
          replace hbw : Below w.heap.size w (wr.drewN d) := bel_trans hbw (below_dN _)
          go_wp2
          go_ret
          exact ⟨rfl, hbw⟩
        · rw [hd] at kD1
          have HL2 : Hid (fin = leftM rows m (k + 1)) := by rw [Hid, HL.out, HS.out, hd]; rfl
          clear HL HS
          go_wp2_with fail
          refine kD1.mono ?_
          rintro e w2 ⟨rfl, d, rfl⟩
          replace hbw : Below w.heap.size w (wr.drewN d) := bel_trans hbw (below_dN _)
          generalize wr.drewN d = W1 at *
          go_wp2
          go_roundw
          case rel => exact ⟨k + 1, by omega, by go_num, HL2, hbw⟩
          case measure => simp [intOf]; omega
      · obtain rfl : k = 3 := by omega
        obtain rfl : fin = false := HL.out.trans (leftM_end _ _)
        clear kD HL
        go_wp2
        go_ret
        exact ⟨rfl, hbw⟩
  · obtain rfl : fin = false := by
      rw [HF.out, decide_eq_false]
      · rfl
      · intro e
        rw [e] at hn
        exact h0 hn.symm
    have hpos : (0 : Int) < (n : Int) := by omega
    clear HF hn kD
    go_wp2
    go_ret
    exact ⟨rfl, hb⟩

end Rq
end Go.Proofs.YtcdpcfnlflpjnaaGreatDoor



/-
  Stage 6: the program's space in memory (its states' records, their moves, the map of their numbers); what a meeting leaves.
-/
namespace Go.Proofs.YtcdpcfnlflpjnaaGreatDoor
open Go.RowKit
set_option linter.unusedVariables false
set_option linter.unusedSimpArgs false

theorem law_str6 : Maps.Keyed Tryz.prog 9 := Maps.string_keyed Tryz.underlying9
theorem zero_int6 (w : World) : (zeroValue 3).run Tryz.prog w = .ok (.int .i64 0) w := by kernel_rfl
structure SpcD (w : World) (B nb : Nat) (vs : Value) (cs : Sl × Sl × Sl) (M : V4 → List I4) (L : List (Rec6 V4 × Value)) (d : Nat) : Prop where
  row : w.ownsRow B 89 22 vs L.length (rcF cs L)
  map : ∃ D : DataW Unit, w.ownsMap Tryz.prog 9 (plainElem Tryz.prog 3) nb L.length D ∧ NumD D (L.map (·.1))
  mvs : ∀ i r mv, i < d → L[i]? = some (r, mv) → w.ownsRow B 158 4 mv (M r.1).length (flat4 (M r.1))
  nil : ∀ i r mv, d ≤ i → L[i]? = some (r, mv) → mv = .slice none 0 0
  low : B ≤ nb
structure KeptS (w w' : World) (X nb : Nat) (vs : Value) : Prop where
  os : w'.os = w.os
  tape : w'.tape = w.tape
  output : w'.output = w.output
  size : w.heap.size ≤ w'.heap.size
  block : ∀ k, k < w.heap.size → k ≠ X → k ≠ nb → vs.ownBlock ≠ some k → w'.heap[k]? = w.heap[k]?
def MovedS (w : World) (vs vs' : Value) : Prop := vs'.ownBlock = vs.ownBlock ∨ ∃ g, w.heap.size ≤ g ∧ vs'.ownBlock = some g
theorem MovedS.refl (w : World) (vs : Value) : MovedS w vs vs := .inl rfl
theorem MovedS.trans {w w' : World} {a b c : Value} (h : MovedS w a b) (hs : w.heap.size ≤ w'.heap.size) (k : MovedS w' b c) : MovedS w a c := by
  rcases k with k | ⟨g, hg, k⟩
  · unfold MovedS
    rw [k]
    exact h
  · exact .inr ⟨g, Nat.le_trans hs hg, k⟩
theorem KeptS.refl (w : World) (X nb : Nat) (vs : Value) : KeptS w w X nb vs := ⟨rfl, rfl, rfl, Nat.le_refl _, fun _ _ _ _ _ => rfl⟩
theorem KeptS.trans {a b c : World} {X nb : Nat} {v v' : Value} (h : KeptS a b X nb v) (hm : MovedS a v v') (k : KeptS b c X nb v') : KeptS a c X nb v :=
  ⟨k.os.trans h.os, k.tape.trans h.tape, k.output.trans h.output, Nat.le_trans h.size k.size, fun j hj h1 h2 h3 => (k.block j (Nat.lt_of_lt_of_le hj h.size) h1 h2 (fun e => by
    rcases hm with hm | ⟨g, hg, hm⟩
    · exact h3 (hm ▸ e)
    · rw [hm] at e; cases e; omega)).trans (h.block j hj h1 h2 h3)⟩
theorem KeptS.belowR {a b c : World} {X nb : Nat} {v : Value} (h : KeptS a b X nb v) (k : Below b.heap.size b c) : KeptS a c X nb v :=
  ⟨k.os.trans h.os, k.tape.trans h.tape, k.output.trans h.output, Nat.le_trans h.size k.size, fun j hj h1 h2 h3 => (k.block j (Nat.lt_of_lt_of_le hj h.size)).trans (h.block j hj h1 h2 h3)⟩
theorem KeptS.of_below {a b : World} (X nb : Nat) (v : Value) (k : Below a.heap.size a b) : KeptS a b X nb v := (KeptS.refl a X nb v).belowR k
theorem KeptS.below {a b : World} {X nb B : Nat} {v : Value} (h : KeptS a b X nb v) (hX : B ≤ X) (hn : B ≤ nb) (hv : ∀ k, v.ownBlock = some k → B ≤ k) (hB : B ≤ a.heap.size) : Below B a b :=
  ⟨h.os, h.tape, h.output, h.size, fun k hk => h.block k (by omega) (by omega) (by omega) (fun e => by have := hv k e; omega)⟩
theorem map_blk {w : World} {nb n g t : Nat} {D : DataW Unit} {cs : List Value} (h : w.ownsMap Tryz.prog 9 (plainElem Tryz.prog 3) nb n D) (hB : Blk w g t cs) : g ≠ nb := by
  rintro rfl
  obtain ⟨es, clock, hb, _⟩ := h
  unfold Blk at hB
  rw [hb] at hB
  simp at hB
theorem map_own {w : World} {nb n B e s k : Nat} {v : Value} {xs : List Value} {D : DataW Unit} (h : w.ownsMap Tryz.prog 9 (plainElem Tryz.prog 3) nb n D) (ho : w.ownsRow B e s v k xs) : v.ownBlock ≠ some nb := by
  intro e2
  obtain ⟨es, clock, hb, _⟩ := h
  rcases ho.2 with ⟨rfl, _⟩ | ⟨g, cap, cur, rfl, _, hg, _⟩
  · simp [Value.ownBlock] at e2
  · simp [Value.ownBlock] at e2
    subst e2
    rw [hb] at hg
    simp at hg
section
variable {w w' : World} {B X nb d : Nat} {vs : Value} {cs : Sl × Sl × Sl} {M : V4 → List I4} {L : List (Rec6 V4 × Value)}
theorem SpcD.below (h : SpcD w B nb vs cs M L d) (hb : Below w.heap.size w w') : SpcD w' B nb vs cs M L d := by
  obtain ⟨D, hm, hn⟩ := h.map
  exact ⟨owns_below h.row hb, ⟨D, hm.kept (row := none) ⟨hb.os, hb.tape, hb.output, hb.size, fun k hk _ => hb.block k hk⟩ (by simp), hn⟩, fun i r mv hi hr => owns_below (h.mvs i r mv hi hr) hb, h.nil, h.low⟩
theorem SpcD.grown {g t : Nat} {cs' : List Value} (h : SpcD w B nb vs cs M L d) (hg : w.grownBy w' (some g)) (hB : Blk w g t cs') (h1 : 89 ≠ t) (h2 : 158 ≠ t) : SpcD w' B nb vs cs M L d := by
  obtain ⟨D, hm, hn⟩ := h.map
  refine ⟨h.row.kept hg (.inr (own_ne_blk9 h.row hB h1)), ⟨D, hm.kept hg (fun e => map_blk hm hB (by cases e; rfl)), hn⟩, fun i r mv hi hr => ?_, h.nil, h.low⟩
  have := h.mvs i r mv hi hr
  exact this.kept hg (.inr (own_ne_blk9 this hB h2))
theorem KeptS.row (k : KeptS w w' X nb vs) (h : SpcD w B nb vs cs M L d) {t : Nat} {cs' : List Value} (hX : Blk w X t cs') {B' e s n : Nat} {v : Value} {xs : List Value} (ho : w.ownsRow B' e s v n xs) (h1 : e ≠ 89) (h2 : e ≠ t) : w'.ownsRow B' e s v n xs := by
  obtain ⟨D, hm, _⟩ := h.map
  have hlt := fun g hg => (own_lt3 ho (g := g) hg).2
  have hnX := own_ne_blk9 ho hX h2
  have hnm := map_own hm ho
  have hap := Ap3.types ho h.row h1
  refine ⟨ho.1, ?_⟩
  rcases ho.2 with hn | ⟨g, cap, cur, rfl, hb, hgg, rest⟩
  · exact .inl hn
  · refine .inr ⟨g, cap, cur, rfl, hb, (k.block g (hlt g rfl) (fun e => hnX (by rw [← e]; rfl)) (fun e => hnm (by rw [← e]; rfl)) (hap g rfl)).trans hgg, rest⟩
theorem KeptS.blk (k : KeptS w w' X nb vs) (h : SpcD w B nb vs cs M L d) {t : Nat} {cs' : List Value} (hX : Blk w X t cs') {g e : Nat} {xs : List Value} (p : Blk w g e xs) (h1 : 89 ≠ e) (h2 : t ≠ e) : Blk w' g e xs := by
  obtain ⟨D, hm, _⟩ := h.map
  exact (k.block g p.lt (fun e2 => blk_ne hX p h2 e2.symm) (map_blk hm p) (own_ne_blk9 h.row p h1)).trans p
theorem KeptS.ownI (k : KeptS w w' X nb vs) (h : SpcD w B nb vs cs M L d) {cs' : List Value} (hX : Blk w X 75 cs') {B' : Nat} {s : Sl} {zs : List Int} (ho : OwnI w B' s zs) : OwnI w' B' s zs := k.row h hX ho (by decide) (by decide)
theorem SpcD.at9 (h : SpcD w B nb vs cs M L d) {i : Nat} {r : Rec6 V4} {mv : Value} (hr : L[i]? = some (r, mv)) : ∃ g c, vs = .slice (some ⟨g, 0, none⟩) L.length c ∧ g < w.heap.size ∧ w.rangeAt g (i * 22) (rcC cs r mv) := by
  have hl := (List.getElem?_eq_some_iff.1 hr).1
  rcases h.row.2 with ⟨_, h0⟩ | ⟨g, c, cur, hv, _⟩
  · omega
  · refine ⟨g, c, hv, (own_lt3 h.row (by rw [hv]; rfl)).2, fun j v hj => ?_⟩
    have hj2 : j < 22 := (List.getElem?_eq_some_iff.1 hj).1
    have h9 := h.row
    rw [hv] at h9
    rw [h9.cellAt (i * 22 + j) (by omega), rcF_at cs L i j _ hr hj2]
    exact hj
end
end Go.Proofs.YtcdpcfnlflpjnaaGreatDoor


/-
  KeyOf, the specification's and the program's; FnExactKeyOf's two sides.
-/
namespace Go.Proofs.YtcdpcfnlflpjnaaGreatDoor
open Go.RowKit

theorem getD_mem9 {zs : List Int} {k : Nat} (h : k < zs.length) : zs.getD k 0 ∈ zs := by simp [List.getD, h]
theorem take_dig {zs : List Int} {k : Nat} (h : k < zs.length) : (zs.map fun z => 48 + z).take (k + 1) = (zs.map fun z => 48 + z).take k ++ [48 + zs.getD k 0] := by
  rw [List.take_succ_eq_append_getElem (by simpa using h)]
  simp [List.getD, h]
theorem part_of {zs pre xs suf : List Int} {o n : Nat} (h : zs = pre ++ (xs ++ suf)) (ho : pre.length = o) (hn : xs.length = n) {j : Nat} (hj : j < n) : xs.getD j 0 = zs.getD (o + j) 0 := by
  subst h ho hn
  simp [List.getD, List.getElem?_append_right, List.getElem?_append_left hj]

set_option maxHeartbeats 8000000 in
set_option maxRecDepth 100000 in
theorem implKeyOf_ok (s : S4) (m : V4) (w : World) (h : Vmem w s m) (hok : shapeOk m = true) (hV : VmShape w) :
    Calls Tryz.prog 14 #[s.val] w fun e w' => e = .returned (.tuple #[.string (keyT m), .int .i64 0]) ∧ Below w.heap.size w w' := by
  have kS := fun w h => right_is s m w h
  have kL := fun w => lists_is s w
  rw [hok] at kS
  have hM := fun (W : World) (hb : Below w.heap.size w W) => h.below hb
  obtain ⟨i8, hi8, hy0, hy1, hy2⟩ := info_parts info_u8
  obtain ⟨l0, l1, l2, l3, hdig⟩ := shape_parts hok
  have HD : Hid (∀ z ∈ allOf m, 0 ≤ z ∧ z ≤ 9) := hdig
  obtain ⟨fin, hfin⟩ : ∃ fin, fin = keyT m := ⟨_, rfl⟩
  rw [← hfin]
  have HF : Hid (fin = strOfNums ((allOf m).map fun z => 48 + z)) := hfin
  clear hdig hfin hok
  obtain ⟨⟨j0, _⟩, ⟨j1, _⟩, ⟨j2, _⟩, ⟨j3, _⟩⟩ := h
  obtain ⟨⟨a0, n0, c0⟩, ⟨a1, n1, c1⟩, ⟨a2, n2, c2⟩, ⟨a3, n3, c3⟩⟩ := s
  obtain ⟨zs, hzs⟩ : ∃ zs, zs = allOf m := ⟨_, rfl⟩
  rw [← hzs] at HD HF
  have hall : zs = ((m.1 ++ m.2.1) ++ m.2.2.1) ++ m.2.2.2 := hzs
  clear hzs
  have uA : S4.val ((a0, n0, c0), (a1, n1, c1), (a2, n2, c2), (a3, n3, c3)) = .agg #[.slice a0 n0 c0, .slice a1 n1 c1, .slice a2 n2 c2, .slice a3 n3 c3] := rfl
  rw [uA] at kS kL ⊢
  clear uA
  obtain ⟨m0, m1, m2, m3⟩ := m
  simp only at j0 j1 j2 j3 l0 l1 l2 l3 hall
  have HP0 : Hid (∀ j, j < 3 → m0.getD j 0 = zs.getD (0 + j) 0) := fun j hj => part_of (pre := []) (suf := m1 ++ m2 ++ m3) (by rw [hall]; simp [List.append_assoc]) rfl l0 hj
  have HP1 : Hid (∀ j, j < 4 → m1.getD j 0 = zs.getD (3 + j) 0) := fun j hj => part_of (pre := m0) (suf := m2 ++ m3) (by rw [hall]; simp [List.append_assoc]) l0 l1 hj
  have HP2 : Hid (∀ j, j < 2 → m2.getD j 0 = zs.getD (7 + j) 0) := fun j hj => part_of (pre := m0 ++ m1) (suf := m3) (by rw [hall]; simp [List.append_assoc]) (by simp; omega) l2 hj
  have HP3 : Hid (∀ j, j < 6 → m3.getD j 0 = zs.getD (9 + j) 0) := fun j hj => part_of (pre := m0 ++ m1 ++ m2) (suf := []) (by rw [hall]; simp [List.append_assoc]) (by simp; omega) l3 hj
  have HL : Hid (zs.length = 15) := by rw [hall]; simp [Hid]; omega
  obtain ⟨rfl, b0, o0, rfl⟩ := some_of_ints j0 l0 (by omega)
  obtain ⟨rfl, b1, o1, rfl⟩ := some_of_ints j1 l1 (by omega)
  obtain ⟨rfl, b2, o2, rfl⟩ := some_of_ints j2 l2 (by omega)
  obtain ⟨rfl, b3, o3, rfl⟩ := some_of_ints j3 l3 (by omega)
  clear l0 l1 l2 l3 hall
  have y0 := idx4_0 (.slice (some ⟨b0, o0, none⟩) 3 c0) (.slice (some ⟨b1, o1, none⟩) 4 c1) (.slice (some ⟨b2, o2, none⟩) 2 c2) (.slice (some ⟨b3, o3, none⟩) 6 c3)
  have y1 := idx4_1 (.slice (some ⟨b0, o0, none⟩) 3 c0) (.slice (some ⟨b1, o1, none⟩) 4 c1) (.slice (some ⟨b2, o2, none⟩) 2 c2) (.slice (some ⟨b3, o3, none⟩) 6 c3)
  have y2 := idx4_2 (.slice (some ⟨b0, o0, none⟩) 3 c0) (.slice (some ⟨b1, o1, none⟩) 4 c1) (.slice (some ⟨b2, o2, none⟩) 2 c2) (.slice (some ⟨b3, o3, none⟩) 6 c3)
  have y3 := idx4_3 (.slice (some ⟨b0, o0, none⟩) 3 c0) (.slice (some ⟨b1, o1, none⟩) 4 c1) (.slice (some ⟨b2, o2, none⟩) 2 c2) (.slice (some ⟨b3, o3, none⟩) 6 c3)
  have bw : Below w.heap.size w (w.alloc (.cells #[.slice (some ⟨b0, o0, none⟩) 3 c0, .slice (some ⟨b1, o1, none⟩) 4 c1, .slice (some ⟨b2, o2, none⟩) 2 c2, .slice (some ⟨b3, o3, none⟩) 6 c3] 33)) := by go_grown
  have pA := Blk.new w 33 [.slice (some ⟨b0, o0, none⟩) 3 c0, .slice (some ⟨b1, o1, none⟩) 4 c1, .slice (some ⟨b2, o2, none⟩) 2 c2, .slice (some ⟨b3, o3, none⟩) 6 c3]
  go_enter Tryz.func14, Tryz.ntmps14
  go_wp2_with fail
  refine (kS _ (hM _ bw) (hV.below bw)).mono ?_
  rintro e w1 ⟨rfl, hb⟩
  replace bw := bel_trans bw hb
  replace pA := pA.below hb
  have g0 := pA.cell 0
  have g1 := pA.cell 1
  have g2 := pA.cell 2
  have g3 := pA.cell 3
  simp at g0 g1 g2 g3
  clear hb kS hM
  go_wp2_with fail
  refine (kL _).mono ?_
  rintro e w2 ⟨rfl, hb⟩
  replace bw := bel_trans bw hb
  clear hb kL g0 g1 g2 g3 pA hV
  have hown : w2.ownsRow w.heap.size 5 1 (.slice none 0 0) 0 (u8s ((zs.map fun z => 48 + z).take 0)) := World.ownsRow_nil _ _ _ _
  go_wp2_with fail
  refine wp_loop_rounds 5 ?_
  rw [rounds_succ]
  go_wp2_with fail
  go_loopw [4, 19] (fun so si wr => ∃ j : Nat, j ≤ 3 ∧ si = .int .i64 j ∧ wr.ownsRow w.heap.size 5 1 so (0 + j) (u8s ((zs.map fun z => 48 + z).take (0 + j))) ∧ Below w.heap.size w wr) (fun _ si _ => 3 - (intOf si).toNat)
  case atStart => exact ⟨0, by omega, rfl, hown, bw⟩
  case round =>
    clear hown bw
    obtain ⟨j, hj, rfl, hr, hbw⟩ := hrel
    by_cases hlt : j < 3
    · have hjl : 0 + j < zs.length := by rw [HL.out]; omega
      have hc : wr.cell? ⟨b0, o0 + j, none⟩ = some (.int .i64 (zs.getD (0 + j) 0)) := by
        rw [← HP0.out j hlt]
        rcases (j0.below hbw).2.2.2 with h9 | ⟨b9, off9, ha9, _, hc9⟩
        · exact absurd h9 (by decide)
        · cases ha9
          exact hc9 j hlt
      have hx := HD.out (zs.getD (0 + j) 0) (getD_mem9 hjl)
      have HX : Hid ((zs.map fun z => 48 + z).take (0 + (j + 1)) = (zs.map fun z => 48 + z).take (0 + j) ++ [48 + zs.getD (0 + j) 0]) := by
        exact take_dig hjl
      obtain ⟨d, hd⟩ : ∃ d : Nat, zs.getD (0 + j) 0 = (d : Int) := ⟨(zs.getD (0 + j) 0).toNat, by omega⟩
      rw [hd] at hc hx HX
      have hd9 : d ≤ 9 := by omega
      clear hx hd hjl
      have hsz := hbw.size
      have hjI : (j : Int) < 3 := by omega
      go_wp2_with (at_builtin; refine wpList_append_own _ rfl _ _ 22 rfl w.heap.size 5 i8 (.int .u8 0) 1 1 Tryz.underlying22 hi8 hy0 hy1 hy2 rfl (by decide) _ _ _ rfl (hr.alloc _) ⟨wr.heap.size, 0, none⟩ 1 1 [.int .u8 (48 + (d : Int))] rfl rfl (cell_one_new _ _ _) (one_u8 _) ?c3 ?c4 ?c5 ?_)
      case c3 => unfold maxLen; omega
      case c4 => omega
      case c5 => simp; omega
      intro v' wn hown' hgrow _
      have R : wn.ownsRow w.heap.size 5 1 v' (0 + (j + 1)) (u8s ((zs.map fun z => 48 + z).take (0 + (j + 1)))) := by
        rw [HX.out]
        simpa [u8s, Nat.add_assoc] using hown'
      have bn : Below w.heap.size w wn := (hbw.alloc hsz _).grown hgrow (by simp; omega) (fun k hk => (hr.lt k hk).1)
      clear hown' hgrow hr hbw hc HX
      go_wp2
      go_roundw
      case rel => exact ⟨j + 1, by omega, by go_num, R, bn⟩
      case measure => simp [intOf]; omega
    · obtain rfl : j = 3 := by omega
      have hown := hr
      have bw := hbw
      clear hr hbw
      simp only [Nat.reduceAdd] at hown
      go_wp2_with fail
      rw [rounds_succ]
      replace hown : _ := (show wr.ownsRow w.heap.size 5 1 _ (3 + 0) (u8s ((zs.map fun z => 48 + z).take (3 + 0))) from hown)
      go_wp2_with fail
      go_loopw [4, 19] (fun so si wr => ∃ j : Nat, j ≤ 4 ∧ si = .int .i64 j ∧ wr.ownsRow w.heap.size 5 1 so (3 + j) (u8s ((zs.map fun z => 48 + z).take (3 + j))) ∧ Below w.heap.size w wr) (fun _ si _ => 4 - (intOf si).toNat)
      case atStart => exact ⟨0, by omega, rfl, hown, bw⟩
      case round =>
        clear hown bw
        obtain ⟨j, hj, rfl, hr, hbw⟩ := hrel
        by_cases hlt : j < 4
        · have hjl : 3 + j < zs.length := by rw [HL.out]; omega
          have hc : wr.cell? ⟨b1, o1 + j, none⟩ = some (.int .i64 (zs.getD (3 + j) 0)) := by
            rw [← HP1.out j hlt]
            rcases (j1.below hbw).2.2.2 with h9 | ⟨b9, off9, ha9, _, hc9⟩
            · exact absurd h9 (by decide)
            · cases ha9
              exact hc9 j hlt
          have hx := HD.out (zs.getD (3 + j) 0) (getD_mem9 hjl)
          have HX : Hid ((zs.map fun z => 48 + z).take (3 + (j + 1)) = (zs.map fun z => 48 + z).take (3 + j) ++ [48 + zs.getD (3 + j) 0]) := by
            exact take_dig hjl
          obtain ⟨d, hd⟩ : ∃ d : Nat, zs.getD (3 + j) 0 = (d : Int) := ⟨(zs.getD (3 + j) 0).toNat, by omega⟩
          rw [hd] at hc hx HX
          have hd9 : d ≤ 9 := by omega
          clear hx hd hjl
          have hsz := hbw.size
          have hjI : (j : Int) < 4 := by omega
          go_wp2_with (at_builtin; refine wpList_append_own _ rfl _ _ 22 rfl w.heap.size 5 i8 (.int .u8 0) 1 1 Tryz.underlying22 hi8 hy0 hy1 hy2 rfl (by decide) _ _ _ rfl (hr.alloc _) ⟨wr.heap.size, 0, none⟩ 1 1 [.int .u8 (48 + (d : Int))] rfl rfl (cell_one_new _ _ _) (one_u8 _) ?c3 ?c4 ?c5 ?_)
          case c3 => unfold maxLen; omega
          case c4 => omega
          case c5 => simp; omega
          intro v' wn hown' hgrow _
          have R : wn.ownsRow w.heap.size 5 1 v' (3 + (j + 1)) (u8s ((zs.map fun z => 48 + z).take (3 + (j + 1)))) := by
            rw [HX.out]
            simpa [u8s, Nat.add_assoc] using hown'
          have bn : Below w.heap.size w wn := (hbw.alloc hsz _).grown hgrow (by simp; omega) (fun k hk => (hr.lt k hk).1)
          clear hown' hgrow hr hbw hc HX
          go_wp2
          go_roundw
          case rel => exact ⟨j + 1, by omega, by go_num, R, bn⟩
          case measure => simp [intOf]; omega
        · obtain rfl : j = 4 := by omega
          have hown := hr
          have bw := hbw
          clear hr hbw
          simp only [Nat.reduceAdd] at hown
          go_wp2_with fail
          rw [rounds_succ]
          replace hown : _ := (show wr.ownsRow w.heap.size 5 1 _ (7 + 0) (u8s ((zs.map fun z => 48 + z).take (7 + 0))) from hown)
          go_wp2_with fail
          go_loopw [4, 19] (fun so si wr => ∃ j : Nat, j ≤ 2 ∧ si = .int .i64 j ∧ wr.ownsRow w.heap.size 5 1 so (7 + j) (u8s ((zs.map fun z => 48 + z).take (7 + j))) ∧ Below w.heap.size w wr) (fun _ si _ => 2 - (intOf si).toNat)
          case atStart => exact ⟨0, by omega, rfl, hown, bw⟩
          case round =>
            clear hown bw
            obtain ⟨j, hj, rfl, hr, hbw⟩ := hrel
            by_cases hlt : j < 2
            · have hjl : 7 + j < zs.length := by rw [HL.out]; omega
              have hc : wr.cell? ⟨b2, o2 + j, none⟩ = some (.int .i64 (zs.getD (7 + j) 0)) := by
                rw [← HP2.out j hlt]
                rcases (j2.below hbw).2.2.2 with h9 | ⟨b9, off9, ha9, _, hc9⟩
                · exact absurd h9 (by decide)
                · cases ha9
                  exact hc9 j hlt
              have hx := HD.out (zs.getD (7 + j) 0) (getD_mem9 hjl)
              have HX : Hid ((zs.map fun z => 48 + z).take (7 + (j + 1)) = (zs.map fun z => 48 + z).take (7 + j) ++ [48 + zs.getD (7 + j) 0]) := by
                exact take_dig hjl
              obtain ⟨d, hd⟩ : ∃ d : Nat, zs.getD (7 + j) 0 = (d : Int) := ⟨(zs.getD (7 + j) 0).toNat, by omega⟩
              rw [hd] at hc hx HX
              have hd9 : d ≤ 9 := by omega
              clear hx hd hjl
              have hsz := hbw.size
              have hjI : (j : Int) < 2 := by omega
              go_wp2_with (at_builtin; refine wpList_append_own _ rfl _ _ 22 rfl w.heap.size 5 i8 (.int .u8 0) 1 1 Tryz.underlying22 hi8 hy0 hy1 hy2 rfl (by decide) _ _ _ rfl (hr.alloc _) ⟨wr.heap.size, 0, none⟩ 1 1 [.int .u8 (48 + (d : Int))] rfl rfl (cell_one_new _ _ _) (one_u8 _) ?c3 ?c4 ?c5 ?_)
              case c3 => unfold maxLen; omega
              case c4 => omega
              case c5 => simp; omega
              intro v' wn hown' hgrow _
              have R : wn.ownsRow w.heap.size 5 1 v' (7 + (j + 1)) (u8s ((zs.map fun z => 48 + z).take (7 + (j + 1)))) := by
                rw [HX.out]
                simpa [u8s, Nat.add_assoc] using hown'
              have bn : Below w.heap.size w wn := (hbw.alloc hsz _).grown hgrow (by simp; omega) (fun k hk => (hr.lt k hk).1)
              clear hown' hgrow hr hbw hc HX
              go_wp2
              go_roundw
              case rel => exact ⟨j + 1, by omega, by go_num, R, bn⟩
              case measure => simp [intOf]; omega
            · obtain rfl : j = 2 := by omega
              have hown := hr
              have bw := hbw
              clear hr hbw
              simp only [Nat.reduceAdd] at hown
              go_wp2_with fail
              rw [rounds_succ]
              replace hown : _ := (show wr.ownsRow w.heap.size 5 1 _ (9 + 0) (u8s ((zs.map fun z => 48 + z).take (9 + 0))) from hown)
              go_wp2_with fail
              go_loopw [4, 19] (fun so si wr => ∃ j : Nat, j ≤ 6 ∧ si = .int .i64 j ∧ wr.ownsRow w.heap.size 5 1 so (9 + j) (u8s ((zs.map fun z => 48 + z).take (9 + j))) ∧ Below w.heap.size w wr) (fun _ si _ => 6 - (intOf si).toNat)
              case atStart => exact ⟨0, by omega, rfl, hown, bw⟩
              case round =>
                clear hown bw
                obtain ⟨j, hj, rfl, hr, hbw⟩ := hrel
                by_cases hlt : j < 6
                · have hjl : 9 + j < zs.length := by rw [HL.out]; omega
                  have hc : wr.cell? ⟨b3, o3 + j, none⟩ = some (.int .i64 (zs.getD (9 + j) 0)) := by
                    rw [← HP3.out j hlt]
                    rcases (j3.below hbw).2.2.2 with h9 | ⟨b9, off9, ha9, _, hc9⟩
                    · exact absurd h9 (by decide)
                    · cases ha9
                      exact hc9 j hlt
                  have hx := HD.out (zs.getD (9 + j) 0) (getD_mem9 hjl)
                  have HX : Hid ((zs.map fun z => 48 + z).take (9 + (j + 1)) = (zs.map fun z => 48 + z).take (9 + j) ++ [48 + zs.getD (9 + j) 0]) := by
                    exact take_dig hjl
                  obtain ⟨d, hd⟩ : ∃ d : Nat, zs.getD (9 + j) 0 = (d : Int) := ⟨(zs.getD (9 + j) 0).toNat, by omega⟩
                  rw [hd] at hc hx HX
                  have hd9 : d ≤ 9 := by omega
                  clear hx hd hjl
                  have hsz := hbw.size
                  have hjI : (j : Int) < 6 := by omega
                  go_wp2_with (at_builtin; refine wpList_append_own _ rfl _ _ 22 rfl w.heap.size 5 i8 (.int .u8 0) 1 1 Tryz.underlying22 hi8 hy0 hy1 hy2 rfl (by decide) _ _ _ rfl (hr.alloc _) ⟨wr.heap.size, 0, none⟩ 1 1 [.int .u8 (48 + (d : Int))] rfl rfl (cell_one_new _ _ _) (one_u8 _) ?c3 ?c4 ?c5 ?_)
                  case c3 => unfold maxLen; omega
                  case c4 => omega
                  case c5 => simp; omega
                  intro v' wn hown' hgrow _
                  have R : wn.ownsRow w.heap.size 5 1 v' (9 + (j + 1)) (u8s ((zs.map fun z => 48 + z).take (9 + (j + 1)))) := by
                    rw [HX.out]
                    simpa [u8s, Nat.add_assoc] using hown'
                  have bn : Below w.heap.size w wn := (hbw.alloc hsz _).grown hgrow (by simp; omega) (fun k hk => (hr.lt k hk).1)
                  clear hown' hgrow hr hbw hc HX
                  go_wp2
                  go_roundw
                  case rel => exact ⟨j + 1, by omega, by go_num, R, bn⟩
                  case measure => simp [intOf]; omega
                · obtain rfl : j = 6 := by omega
                  have hown := hr
                  have bw := hbw
                  clear hr hbw
                  simp only [Nat.reduceAdd] at hown
                  have hfull : (zs.map fun z => 48 + z).take 15 = zs.map fun z => 48 + z := List.take_of_length_le (by simp [HL.out])
                  rw [hfull] at hown
                  have hcv := conv_owned hown
                  rw [← HF.out] at hcv
                  clear hown hfull
                  go_wp2_with fail
                  rw [rounds_succ]
                  go_wp2
                  go_ret2
                  exact ⟨rfl, bw⟩
end Go.Proofs.YtcdpcfnlflpjnaaGreatDoor

