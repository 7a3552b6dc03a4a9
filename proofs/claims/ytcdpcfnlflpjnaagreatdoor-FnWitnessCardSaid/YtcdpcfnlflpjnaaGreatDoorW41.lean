/-
  Joined: RqE, CntI, FulC, RbgI, WitA.
-/
import Derived.Carry
import Derived.Deep.CutRange
import Derived.Test.YtcdpcfnlflpjnaaGreatDoorW36
import Derived.Test.YtcdpcfnlflpjnaaGreatDoorW38

namespace Go.Proofs.YtcdpcfnlflpjnaaGreatDoor
set_option maxRecDepth 100000
namespace Rq
open Go.RowKit
set_option linter.unusedVariables false
set_option linter.unusedSimpArgs false

def MachAt (w : World) (g : Nat) (cs : Sl × Sl × Sl) (rows : List (List I3)) (m : V4) : Prop :=
 (∃ kv fv bv mv : Value, Blk w g 89 (kv :: (machCells cs.1.val cs.2.1.val cs.2.2.val m ++ [fv, bv, mv]))) ∧ ∀ k, k < 3 → Instrs w (slK cs k).1 (slK cs k).2.1 (slK cs k).2.2 (codeM rows k)
theorem MachAt.below {w w' : World} {g : Nat} {cs : Sl × Sl × Sl} {rows : List (List I3)} {m : V4} (h : MachAt w g cs rows m) (hb : Below w.heap.size w w') : MachAt w' g cs rows m := by
 obtain ⟨⟨kv, fv, bv, mv, h1⟩, h2⟩ := h
 exact ⟨⟨kv, fv, bv, mv, h1.below hb⟩, fun k hk => (h2 k hk).below hb⟩
theorem MachAt.at18 {w : World} {g : Nat} {cs : Sl × Sl × Sl} {rows : List (List I3)} {m : V4} (h : MachAt w g cs rows m) {i : Nat} (hi : i < 18) : w.cell? ⟨g, 1 + i, none⟩ = (machCells cs.1.val cs.2.1.val cs.2.2.val m)[i]? := by
 obtain ⟨⟨kv, fv, bv, mv, h1⟩, _⟩ := h
 rw [h1.cell, Nat.add_comm 1 i, List.getElem?_cons_succ, List.getElem?_append_left (show i < (machCells cs.1.val cs.2.1.val cs.2.2.val m).length from hi)]
theorem MachAt.code {w : World} {g : Nat} {cs : Sl × Sl × Sl} {rows : List (List I3)} {m : V4} (h : MachAt w g cs rows m) {k : Nat} (hk : k < 3) : w.cell? ⟨g, 1 + k * 4, none⟩ = some (.slice (slK cs k).1 (slK cs k).2.1 (slK cs k).2.2) := by
 rw [h.at18 (by omega), mc_code _ _ _ _ hk, codeV_sl cs hk]; rfl
theorem MachAt.pc {w : World} {g : Nat} {cs : Sl × Sl × Sl} {rows : List (List I3)} {m : V4} (h : MachAt w g cs rows m) {k : Nat} (hk : k < 3) : w.cell? ⟨g, 1 + k * 4 + 1, none⟩ = some (.int .i64 (m.1.getD k 0)) := by
 rw [show 1 + k * 4 + 1 = 1 + (k * 4 + 1) by omega, h.at18 (by omega), mc_pc _ _ _ _ hk]
theorem MachAt.held {w : World} {g : Nat} {cs : Sl × Sl × Sl} {rows : List (List I3)} {m : V4} (h : MachAt w g cs rows m) {a : Nat} (ha : a < 2) : w.cell? ⟨g, 17 + a, none⟩ = some (.int .i64 (m.2.2.1.getD a 0)) := by
 rw [show 17 + a = 1 + (16 + a) by omega, h.at18 (by omega), mc_held _ _ _ _ ha]
set_option maxHeartbeats 2000000 in
theorem waits_done (g k : Nat) (a : Option Addr) (n c : Nat) (pc : Int) (w : World) (hk : k < 3) (h0 : w.cell? ⟨g, 1 + k * 4, none⟩ = some (.slice a n c)) (h1 : w.cell? ⟨g, 1 + k * 4 + 1, none⟩ = some (.int .i64 pc)) (hd : (n : Int) ≤ pc) :
  Calls Tryz.prog 48 #[.pointer (some ⟨g, 1, none⟩), .int .i64 k] w fun e w' => e = .returned (.bool false) ∧ Below w.heap.size w w' := by
 have kD := done_is g (1 + k * 4) a n c pc w h0 h1
 rw [decide_eq_true hd] at kD
 have hk3 : (k : Int) < 3 := by omega
 go_enter Tryz.func48, Tryz.ntmps48
 go_wp2_with fail
 refine kD.mono ?_
 rintro e w1 ⟨rfl, d, rfl⟩
 go_wp2
 go_ret
 exact ⟨rfl, below_dN _⟩
set_option maxHeartbeats 4000000 in
theorem waits_free (g k p b off : Nat) (n c : Nat) (x0 x1 x2 : Int) (w : World) (hk : k < 3) (hd : p < n)
  (h0 : w.cell? ⟨g, 1 + k * 4, none⟩ = some (.slice (some ⟨b, off, none⟩) n c)) (h1 : w.cell? ⟨g, 1 + k * 4 + 1, none⟩ = some (.int .i64 p)) (c0 : w.cell? ⟨b, off + p * 3, none⟩ = some (.int .i64 x0)) (c1 : w.cell? ⟨b, off + p * 3 + 1, none⟩ = some (.int .i64 x1)) (c2 : w.cell? ⟨b, off + p * 3 + 2, none⟩ = some (.int .i64 x2)) (hx : x0 ≠ 5) :
  Calls Tryz.prog 48 #[.pointer (some ⟨g, 1, none⟩), .int .i64 k] w fun e w' => e = .returned (.bool false) ∧ Below w.heap.size w w' := by
 have kD := done_is g (1 + k * 4) (some ⟨b, off, none⟩) n c p w h0 h1
 rw [decide_eq_false (by omega)] at kD
 have hk3 : (k : Int) < 3 := by omega
 have hpn : (p : Int) < (n : Int) := by omega
 go_enter Tryz.func48, Tryz.ntmps48
 go_wp2_with fail
 refine kD.mono ?_
 rintro e w1 ⟨rfl, d, rfl⟩
 clear kD
 go_wp2_with fail
 replace h0 : (w.drewN d).cell? ⟨g, 1 + k * 4, none⟩ = some (.slice (some ⟨b, off, none⟩) n c) := h0
 replace h1 : (w.drewN d).cell? ⟨g, 1 + k * 4 + 1, none⟩ = some (.int .i64 p) := h1
 replace c0 : (w.drewN d).cell? ⟨b, off + p * 3, none⟩ = some (.int .i64 x0) := c0
 replace c1 : (w.drewN d).cell? ⟨b, off + p * 3 + 1, none⟩ = some (.int .i64 x1) := c1
 replace c2 : (w.drewN d).cell? ⟨b, off + p * 3 + 2, none⟩ = some (.int .i64 x2) := c2
 have bw : Below w.heap.size w (w.drewN d) := below_dN _
 generalize w.drewN d = W at *
 refine wp_region_held_drew (S := (fun w' => w'.cell? ⟨g, 1 + k * 4, none⟩ = some (.slice (some ⟨b, off, none⟩) n c) ∧ w'.cell? ⟨g, 1 + k * 4 + 1, none⟩ = some (.int .i64 p) ∧ w'.cell? ⟨b, off + p * 3, none⟩ = some (.int .i64 x0) ∧ w'.cell? ⟨b, off + p * 3 + 1, none⟩ = some (.int .i64 x1) ∧ w'.cell? ⟨b, off + p * 3 + 2, none⟩ = some (.int .i64 x2))) (by kernel_rfl) ⟨h0, h1, c0, c1, c2⟩ (fun hS0 => ?_)
 refine tkm 0 14 (.pointer (some ⟨g, 1 + k * 4, none⟩)) ?_
 refine tkm 1 15 (.pointer (some ⟨g, 1 + k * 4, none⟩)) ?_
 refine tkm 2 16 (.pointer (some ⟨g, 1 + k * 4, none⟩)) ?_
 refine tkm 3 17 (.slice (some ⟨b, off, none⟩) n c) ?_
 refine tkm 4 18 (.pointer (some ⟨g, 1 + k * 4, none⟩)) ?_
 refine tkm 5 19 (.pointer (some ⟨g, 1 + k * 4, none⟩)) ?_
 refine tkm 6 20 (.pointer (some ⟨g, 1 + k * 4 + 1, none⟩)) ?_
 refine tkm 7 21 (.int .i64 p) ?_
 refine tkm 8 22 (.pointer (some ⟨b, off + p * 3, none⟩)) ?_
 refine tkm 9 23 (.agg #[.int .i64 x0, .int .i64 x1, .int .i64 x2]) ?_
 refine tkr 10 6 (fun K hK => ?_)
 have hal : Below W.drew.heap.size W.drew (W.drew.alloc (.cells #[.int .i64 0, .int .i64 0, .int .i64 0] 129)) := by go_grown
 go_simp
 refine hK.out _ _ ?_ (fun hS1 => ?_)
 ·exact ⟨cells_kept hal _ _ hS0.1, cells_kept hal _ _ hS0.2.1, cells_kept hal _ _ hS0.2.2.1, cells_kept hal _ _ hS0.2.2.2.1, cells_kept hal _ _ hS0.2.2.2.2⟩
 clear hK
 try simp only [Act.put, tka, tkb, tkc]
 refine tkz 11 (fun K hK => ?_)
 have hal2 : Below W.drew.heap.size W.drew (W.drew.alloc (.cells #[.int .i64 x0, .int .i64 x1, .int .i64 x2] 129)) := by go_grown
 go_simp
 refine hK.out _ _ ?_ (fun hS2 => ?_)
 ·exact ⟨cells_kept hal2 _ _ hS0.1, cells_kept hal2 _ _ hS0.2.1, cells_kept hal2 _ _ hS0.2.2.1, cells_kept hal2 _ _ hS0.2.2.2.1, cells_kept hal2 _ _ hS0.2.2.2.2⟩
 clear hK
 try simp only [Act.put, tka, tkb, tkc]
 refine wpAnyH_done (by kernel_rfl) ?_ _
 replace bw : Below w.heap.size w (W.alloc (.cells #[.int .i64 x0, .int .i64 x1, .int .i64 x2] 129)).drew := bel_trans bw (by go_grown)
 have pX : Blk (W.alloc (.cells #[.int .i64 x0, .int .i64 x1, .int .i64 x2] 129)).drew W.heap.size 129 [.int .i64 x0, .int .i64 x1, .int .i64 x2] := Blk.new W 129 [.int .i64 x0, .int .i64 x1, .int .i64 x2]
 have q0 := pX.cell 0
 have q1 := pX.cell 1
 simp only [List.getElem?_cons_zero, List.getElem?_cons_succ] at q0 q1
 clear hal hal2 hS0 hS1 h0 h1 c0 c1 c2 pX
 clear hS2
 have hx5 : (x0 == 5) = false := by simp [hx]
 go_wp2_with fail
 generalize (W.alloc (.cells #[.int .i64 x0, .int .i64 x1, .int .i64 x2] 129)).drew = W2 at *
 generalize W.heap.size = gx at *
 go_quiet (fail)
 have bz : Below w.heap.size w (W2.drewN nq) := bel_trans bw (below_dN _)
 go_wp2
 go_ret
 exact ⟨rfl, bz⟩
set_option maxHeartbeats 4000000 in
theorem waits_lock (g k p b off : Nat) (n c : Nat) (x2 : Int) (q : Nat) (hv : Int) (w : World) (hk : k < 3) (hd : p < n)
  (h0 : w.cell? ⟨g, 1 + k * 4, none⟩ = some (.slice (some ⟨b, off, none⟩) n c)) (h1 : w.cell? ⟨g, 1 + k * 4 + 1, none⟩ = some (.int .i64 p)) (c0 : w.cell? ⟨b, off + p * 3, none⟩ = some (.int .i64 5)) (c1 : w.cell? ⟨b, off + p * 3 + 1, none⟩ = some (.int .i64 q)) (c2 : w.cell? ⟨b, off + p * 3 + 2, none⟩ = some (.int .i64 x2)) (h6 : w.cell? ⟨g, 17 + q, none⟩ = some (.int .i64 hv)) (hq : q < 2) (z : Bool) (hz : z = !decide (hv = 0)) :
  Calls Tryz.prog 48 #[.pointer (some ⟨g, 1, none⟩), .int .i64 k] w fun e w' => e = .returned (.bool z) ∧ Below w.heap.size w w' := by
 have kD := done_is g (1 + k * 4) (some ⟨b, off, none⟩) n c p w h0 h1
 rw [decide_eq_false (by omega)] at kD
 have hk3 : (k : Int) < 3 := by omega
 have hpn : (p : Int) < (n : Int) := by omega
 go_enter Tryz.func48, Tryz.ntmps48
 go_wp2_with fail
 refine kD.mono ?_
 rintro e w1 ⟨rfl, d, rfl⟩
 clear kD
 go_wp2_with fail
 replace h0 : (w.drewN d).cell? ⟨g, 1 + k * 4, none⟩ = some (.slice (some ⟨b, off, none⟩) n c) := h0
 replace h1 : (w.drewN d).cell? ⟨g, 1 + k * 4 + 1, none⟩ = some (.int .i64 p) := h1
 replace c0 : (w.drewN d).cell? ⟨b, off + p * 3, none⟩ = some (.int .i64 5) := c0
 replace c1 : (w.drewN d).cell? ⟨b, off + p * 3 + 1, none⟩ = some (.int .i64 q) := c1
 replace c2 : (w.drewN d).cell? ⟨b, off + p * 3 + 2, none⟩ = some (.int .i64 x2) := c2
 replace h6 : (w.drewN d).cell? ⟨g, 17 + q, none⟩ = some (.int .i64 hv) := h6
 have bw : Below w.heap.size w (w.drewN d) := below_dN _
 generalize w.drewN d = W at *
 refine wp_region_held_drew (S := (fun w' => w'.cell? ⟨g, 1 + k * 4, none⟩ = some (.slice (some ⟨b, off, none⟩) n c) ∧ w'.cell? ⟨g, 1 + k * 4 + 1, none⟩ = some (.int .i64 p) ∧ w'.cell? ⟨b, off + p * 3, none⟩ = some (.int .i64 5) ∧ w'.cell? ⟨b, off + p * 3 + 1, none⟩ = some (.int .i64 q) ∧ w'.cell? ⟨b, off + p * 3 + 2, none⟩ = some (.int .i64 x2) ∧ w'.cell? ⟨g, 17 + q, none⟩ = some (.int .i64 hv))) (by kernel_rfl) ⟨h0, h1, c0, c1, c2, h6⟩ (fun hS0 => ?_)
 refine tkm 0 14 (.pointer (some ⟨g, 1 + k * 4, none⟩)) ?_
 refine tkm 1 15 (.pointer (some ⟨g, 1 + k * 4, none⟩)) ?_
 refine tkm 2 16 (.pointer (some ⟨g, 1 + k * 4, none⟩)) ?_
 refine tkm 3 17 (.slice (some ⟨b, off, none⟩) n c) ?_
 refine tkm 4 18 (.pointer (some ⟨g, 1 + k * 4, none⟩)) ?_
 refine tkm 5 19 (.pointer (some ⟨g, 1 + k * 4, none⟩)) ?_
 refine tkm 6 20 (.pointer (some ⟨g, 1 + k * 4 + 1, none⟩)) ?_
 refine tkm 7 21 (.int .i64 p) ?_
 refine tkm 8 22 (.pointer (some ⟨b, off + p * 3, none⟩)) ?_
 refine tkm 9 23 (.agg #[.int .i64 5, .int .i64 q, .int .i64 x2]) ?_
 refine tkr 10 6 (fun K hK => ?_)
 have hal : Below W.drew.heap.size W.drew (W.drew.alloc (.cells #[.int .i64 0, .int .i64 0, .int .i64 0] 129)) := by go_grown
 go_simp
 refine hK.out _ _ ?_ (fun hS1 => ?_)
 ·exact ⟨cells_kept hal _ _ hS0.1, cells_kept hal _ _ hS0.2.1, cells_kept hal _ _ hS0.2.2.1, cells_kept hal _ _ hS0.2.2.2.1, cells_kept hal _ _ hS0.2.2.2.2.1, cells_kept hal _ _ hS0.2.2.2.2.2⟩
 clear hK
 try simp only [Act.put, tka, tkb, tkc]
 refine tkz 11 (fun K hK => ?_)
 have hal2 : Below W.drew.heap.size W.drew (W.drew.alloc (.cells #[.int .i64 5, .int .i64 q, .int .i64 x2] 129)) := by go_grown
 go_simp
 refine hK.out _ _ ?_ (fun hS2 => ?_)
 ·exact ⟨cells_kept hal2 _ _ hS0.1, cells_kept hal2 _ _ hS0.2.1, cells_kept hal2 _ _ hS0.2.2.1, cells_kept hal2 _ _ hS0.2.2.2.1, cells_kept hal2 _ _ hS0.2.2.2.2.1, cells_kept hal2 _ _ hS0.2.2.2.2.2⟩
 clear hK
 try simp only [Act.put, tka, tkb, tkc]
 refine wpAnyH_done (by kernel_rfl) ?_ _
 replace bw : Below w.heap.size w (W.alloc (.cells #[.int .i64 5, .int .i64 q, .int .i64 x2] 129)).drew := bel_trans bw (by go_grown)
 have pX : Blk (W.alloc (.cells #[.int .i64 5, .int .i64 q, .int .i64 x2] 129)).drew W.heap.size 129 [.int .i64 5, .int .i64 q, .int .i64 x2] := Blk.new W 129 [.int .i64 5, .int .i64 q, .int .i64 x2]
 have q0 := pX.cell 0
 have q1 := pX.cell 1
 simp only [List.getElem?_cons_zero, List.getElem?_cons_succ] at q0 q1
 clear hal hal2 hS0 hS1 h0 h1 c0 c1 c2 h6 pX
 replace hS2 := hS2.2.2.2.2.2
 have hq2 : (q : Int) < 2 := by omega
 have hv0 : (hv != 0) = z := by rw [hz]; by_cases h : hv = 0 <;> simp [h]
 clear hz
 go_wp2_with fail
 generalize (W.alloc (.cells #[.int .i64 5, .int .i64 q, .int .i64 x2] 129)).drew = W2 at *
 generalize W.heap.size = gx at *
 go_quiet (fail)
 have bz : Below w.heap.size w (W2.drewN nq) := bel_trans bw (below_dN _)
 go_wp2
 go_ret
 exact ⟨rfl, bz⟩
theorem doneT_is {w : World} {g : Nat} {cs : Sl × Sl × Sl} {rows : List (List I3)} {m : V4} (h : MachAt w g cs rows m) {k : Nat} (hk : k < 3) :
  Calls Tryz.prog 46 #[.pointer (some ⟨g, 1 + k * 4, none⟩)] w fun e w' => e = .returned (.bool (doneM rows m k)) ∧ ∃ d, w' = w.drewN d := by
 have hl := (h.2 k hk).1
 have := done_is g (1 + k * 4) _ _ _ _ w (h.code hk) (h.pc hk)
 unfold doneM
 rw [hl]
 exact this
theorem waits_is {w : World} {g : Nat} {cs : Sl × Sl × Sl} {rows : List (List I3)} {m : V4} (h : MachAt w g cs rows m) (hp : progOk rows = true) (hs : shapeOk m = true) {k : Nat} (hk : k < 3) :
  Calls Tryz.prog 48 #[.pointer (some ⟨g, 1, none⟩), .int .i64 k] w fun e w' => e = .returned (.bool (waitM rows m k)) ∧ Below w.heap.size w w' := by
 unfold waitM
 cases hd : doneM rows m k
 ·obtain ⟨p, ep, hlt, hi, hok⟩ := at_ins hp hs hk hd
  have h0 := h.code hk
  have h1 := h.pc hk
  rw [ep] at h1
  obtain ⟨b, off, ea, hpn, c0, c1, c2⟩ := ins_at (h.2 k hk) hlt
  rw [← hi] at c0 c1 c2
  rw [ea] at h0
  by_cases h5 : (insM rows m k).1 = 5
  ·obtain ⟨q, hq, hq2⟩ := okI_lock hok h5
   rw [h5] at c0
   rw [hq] at c1
   have hh := h.held hq2
   have e : atLock m (insM rows m k) = !decide (m.2.2.1.getD q 0 = 0) := by
    unfold atLock
    rw [h5, hq]
    simp
   rw [e]
   exact waits_lock g k p b off _ _ _ q _ w hk hpn h0 h1 c0 c1 c2 hh hq2 _ rfl
  ·have e : atLock m (insM rows m k) = false := by unfold atLock; simp [h5]
   rw [e]
   exact waits_free g k p b off _ _ _ _ _ w hk hpn h0 h1 c0 c1 c2 h5
 ·have h0 := h.code hk
  have h1 := h.pc hk
  unfold doneM at hd
  simp only [decide_eq_true_eq] at hd
  rw [(h.2 k hk).1] at hd
  exact waits_done g k _ _ _ _ w hk h0 h1 hd
set_option maxHeartbeats 4000000 in
theorem enabled_is (g : Nat) (cs : Sl × Sl × Sl) (rows : List (List I3)) (m : V4) (w : World) (h : MachAt w g cs rows m) (hp : progOk rows = true) (hs : shapeOk m = true) :
  Calls Tryz.prog 44 #[.pointer (some ⟨g, 1, none⟩)] w fun e w' => (∃ s : Sl, e = .returned (.slice s.1 s.2.1 s.2.2) ∧ OwnI w' w.heap.size s (enabM rows m 3)) ∧ Below w.heap.size w w' := by
 obtain ⟨i0, hi, hz0, hz1, hz2⟩ := info_parts info_int
 have kD := fun (W : World) (hM : MachAt W g cs rows m) (k : Nat) (hk : k < 3) => doneT_is hM hk
 have kW := fun (W : World) (hM : MachAt W g cs rows m) (k : Nat) (hk : k < 3) => waits_is hM hp hs hk
 go_enter Tryz.func44, Tryz.ntmps44
 go_wp2_with fail
 go_loopw [3, 5] (fun so si wr => ∃ (k : Nat) (n : Nat) (v : Value), v = so ∧ k ≤ 3 ∧ si = .int .i64 k ∧ Hid (n = (enabM rows m k).length) ∧ wr.ownsRow w.heap.size 3 1 v n ((enabM rows m k).map (Value.int .i64)) ∧ Below w.heap.size w wr) (fun _ si _ => 3 - (intOf si).toNat)
 case atStart => exact ⟨0, 0, _, rfl, by omega, rfl, rfl, World.ownsRow_nil _ _ _ _, Below.refl _ _⟩
 case round =>
  obtain ⟨k, n, so, rfl, hk, rfl, HN, hr, hbw⟩ := hrel
  have hM := h.below hbw
  by_cases hlt : k < 3
  ·have hk3 : (k : Int) < 3 := by omega
   have kD1 := kD _ hM k hlt
   have hsz := hbw.size
   cases hd : doneM rows m k
   ·rw [hd] at kD1
    go_wp2_with fail
    refine kD1.mono ?_
    rintro e w1 ⟨rfl, d, rfl⟩
    replace hM : MachAt (wr.drewN d) g cs rows m := hM.below (below_dN _)
    replace hr : (wr.drewN d).ownsRow w.heap.size 3 1 so n ((enabM rows m k).map (Value.int .i64)) := hr
    replace hbw : Below w.heap.size w (wr.drewN d) := bel_trans hbw (below_dN _)
    replace hsz : w.heap.size ≤ (wr.drewN d).heap.size := hsz
    generalize wr.drewN d = W1 at *
    have kW1 := kW _ hM k hlt
    clear kD1
    cases hw : waitM rows m k
    ·have hcan : canM rows m k = true := by
      unfold waitM at hw
      unfold canM
      rw [hd] at hw ⊢
      simpa using hw
     rw [hw] at kW1
     go_wp2_with fail
     refine kW1.mono ?_
     rintro e w2 ⟨rfl, hb⟩
     replace hM := hM.below hb
     replace hr := owns_below hr hb
     replace hbw := bel_trans hbw hb
     replace hsz := hbw.size
     clear hb kW1
     have hn3 : n ≤ 3 := by have := enabM_len rows m k; have := HN.out; omega
     have HN2 : Hid (n + 1 = (enabM rows m (k + 1)).length) := by rw [Hid, enabM_yes hcan, List.length_append, ← HN.out]; rfl
     have HX : Hid (enabM rows m (k + 1) = enabM rows m k ++ [(k : Int)]) := enabM_yes hcan
     go_wp2_with (at_builtin; refine wpList_append_own _ rfl _ _ 31 rfl w.heap.size 3 i0 (.int .i64 0) 1 8 Tryz.underlying31 hi hz0 hz1 hz2 rfl (by decide) _ _ _ rfl (hr.alloc _) ⟨w2.heap.size, 0, none⟩ 1 1 [.int .i64 (k : Int)] rfl rfl (cell_one_new _ _ _) (by simp [Value.oneCell']) ?c3 ?c4 ?c5 ?_)
     case c3 => unfold maxLen; omega
     case c4 => omega
     case c5 => simp; omega
     intro v' wn hown' hgrow _
     have R : wn.ownsRow w.heap.size 3 1 v' (n + 1) ((enabM rows m (k + 1)).map (Value.int .i64)) := by
      rw [HX.out, List.map_append]
      exact hown'
     have bn : Below w.heap.size w wn := (hbw.alloc hsz _).grown hgrow (by simp; omega) (fun k hk => (hr.lt k hk).1)
     clear hown' hgrow hr hbw hM HX
     go_wp2
     go_roundw
     case rel => exact ⟨k + 1, n + 1, _, rfl, by omega, by go_num, HN2, R, bn⟩
     case measure => simp [intOf]; omega
    ·have hcan : canM rows m k = false := by
      unfold waitM at hw
      unfold canM
      rw [hd] at hw ⊢
      simpa using hw
     rw [hw] at kW1
     have HN2 : Hid (n = (enabM rows m (k + 1)).length) := by rw [Hid, enabM_no hcan]; exact HN.out
     rw [← enabM_no hcan] at hr
     go_wp2_with fail
     refine kW1.mono ?_
     rintro e w2 ⟨rfl, hb⟩
     replace hM := hM.below hb
     replace hr := owns_below hr hb
     replace hbw := bel_trans hbw hb
     clear hb kW1
     go_wp2
     go_roundw
     case rel => exact ⟨k + 1, n, _, rfl, by omega, by go_num, HN2, hr, hbw⟩
     case measure => simp [intOf]; omega
   ·have hcan : canM rows m k = false := by unfold canM; rw [hd]; rfl
    rw [hd] at kD1
    have HN2 : Hid (n = (enabM rows m (k + 1)).length) := by rw [Hid, enabM_no hcan]; exact HN.out
    rw [← enabM_no hcan] at hr
    go_wp2_with fail
    refine kD1.mono ?_
    rintro e w1 ⟨rfl, d, rfl⟩
    replace hM : MachAt (wr.drewN d) g cs rows m := hM.below (below_dN _)
    replace hr : (wr.drewN d).ownsRow w.heap.size 3 1 so n ((enabM rows m (k + 1)).map (Value.int .i64)) := hr
    replace hbw : Below w.heap.size w (wr.drewN d) := bel_trans hbw (below_dN _)
    generalize wr.drewN d = W1 at *
    go_wp2
    go_roundw
    case rel => exact ⟨k + 1, n, _, rfl, by omega, by go_num, HN2, hr, hbw⟩
    case measure => simp [intOf]; omega
  ·obtain rfl : k = 3 := by omega
   obtain ⟨a, c, rfl⟩ : ∃ a c, so = .slice a n c := by
    rcases hr.2 with ⟨rfl, rfl⟩ | ⟨g', cap, cur, hv, _⟩
    ·exact ⟨none, 0, rfl⟩
    ·exact ⟨_, cap, hv⟩
   clear kD kW hM
   go_wp2
   go_ret
   exact ⟨⟨(a, n, c), rfl, hr⟩, hbw⟩
set_option maxHeartbeats 4000000 in
theorem stuck_is (g : Nat) (cs : Sl × Sl × Sl) (rows : List (List I3)) (m : V4) (w : World) (h : MachAt w g cs rows m) (hp : progOk rows = true) (hs : shapeOk m = true) :
  Calls Tryz.prog 92 #[.pointer (some ⟨g, 1, none⟩)] w fun e w' => e = .returned (.bool (stuckM rows m)) ∧ Below w.heap.size w w' := by
 have kE := enabled_is g cs rows m w h hp hs
 have kD := fun (W : World) (hM : MachAt W g cs rows m) (k : Nat) (hk : k < 3) => doneT_is hM hk
 obtain ⟨fin, hfin⟩ : ∃ fin, fin = stuckM rows m := ⟨_, rfl⟩
 rw [← hfin]
 have HF : Hid (fin = (decide (enabM rows m 3 = []) && leftM rows m 0)) := hfin
 clear hfin
 go_enter Tryz.func92, Tryz.ntmps92
 go_wp2_with fail
 refine kE.mono ?_
 rintro e w1 ⟨⟨⟨a, n, c⟩, rfl, ho⟩, hb⟩
 have hn : (enabM rows m 3).length = n := by
  have := ho.1
  simpa using this
 clear ho kE
 simp only
 by_cases h0 : n = 0
 ·subst h0
  have HL : Hid (fin = leftM rows m 0) := by rw [Hid, HF.out, List.eq_nil_of_length_eq_zero hn]; rfl
  clear HF hn
  go_wp2_with fail
  go_loopw [8] (fun si wr => ∃ k : Nat, k ≤ 3 ∧ si = .int .i64 k ∧ Hid (fin = leftM rows m k) ∧ Below w.heap.size w wr) (fun si _ => 3 - (intOf si).toNat)
  case atStart => exact ⟨0, by omega, rfl, HL, hb⟩
  case round =>
   clear hb HL
   obtain ⟨k, hk, rfl, HL, hbw⟩ := hrel
   by_cases hlt : k < 3
   ·have hk3 : (k : Int) < 3 := by omega
    have kD1 := kD _ (h.below hbw) k hlt
    have hst := leftM_step rows m hlt
    have HS : Hid (leftM rows m k = (!doneM rows m k || leftM rows m (k + 1))) := hst
    clear hst
    cases hd : doneM rows m k
    ·rw [hd] at kD1
     obtain rfl : fin = true := by rw [HL.out, HS.out, hd]; rfl
     clear HL HS
     go_wp2_with fail
     refine kD1.mono ?_
     rintro e w2 ⟨rfl, d, rfl⟩
     replace hbw : Below w.heap.size w (wr.drewN d) := bel_trans hbw (below_dN _)
     go_wp2
     go_ret
     exact ⟨rfl, hbw⟩
    ·rw [hd] at kD1
     have HL2 : Hid (fin = leftM rows m (k + 1)) := by rw [Hid, HL.out, HS.out, hd]; rfl
     clear HL HS
     go_wp2_with fail
     refine kD1.mono ?_
     rintro e w2 ⟨rfl, d, rfl⟩
     replace hbw : Below w.heap.size w (wr.drewN d) := bel_trans hbw (below_dN _)
     generalize wr.drewN d = W1 at *
     go_wp2
     go_roundw
     case rel => exact ⟨k + 1, by omega, by go_num, HL2, hbw⟩
     case measure => simp [intOf]; omega
   ·obtain rfl : k = 3 := by omega
    obtain rfl : fin = false := HL.out.trans (leftM_end _ _)
    clear kD HL
    go_wp2
    go_ret
    exact ⟨rfl, hbw⟩
 ·obtain rfl : fin = false := by
   rw [HF.out, decide_eq_false]
   ·rfl
   ·intro e
    rw [e] at hn
    exact h0 hn.symm
  have hpos : (0 : Int) < (n : Int) := by omega
  clear HF hn kD
  go_wp2
  go_ret
  exact ⟨rfl, hb⟩

end Rq

open Go.RowKit
set_option linter.unusedVariables false
set_option linter.unusedSimpArgs false

def CtOk (rows : List (List I3)) (L : List (Rec6 V4 × Value)) (cts : List Int) : Prop := cts.length = L.length ∧ ∀ i r mv, L[i]? = some (r, mv) → cts.getD i 0 = 0 ∨ cts.getD i 0 = (cntM rows r.1 : Int)
theorem CtOk.put {rows : List (List I3)} {L : List (Rec6 V4 × Value)} {cts : List Int} (h : CtOk rows L cts) {at9 : Nat} {r : Rec6 V4} {mv : Value} (hr : L[at9]? = some (r, mv)) : CtOk rows L (cts.set at9 (cntM rows r.1 : Int)) := by
 have hl : at9 < L.length := (List.getElem?_eq_some_iff.1 hr).1
 refine ⟨by simp [h.1], fun i r' mv' hi => ?_⟩
 by_cases e : at9 = i
 ·subst e
  rw [hr] at hi
  cases hi
  right
  simp [List.getD, h.1, hl]
 ·have := h.2 i r' mv' hi
  simp only [List.getD, List.getElem?_set_ne e] at this ⊢
  exact this
theorem move_at {rows : List (List I3)} {F : List (Rec6 V4)} {m : V4} {j : Nat} {k : Int} (h : (enabM rows m 3)[j]? = some k) : (mvsOf rows F m)[j]? = some (mvOf rows F m k) := by
 unfold mvsOf
 rw [List.getElem?_map, h]
 rfl
theorem range_move {w : World} {B G cap : Nat} {xs : List I4} (h : w.ownsRow B 158 4 (.slice (some ⟨G, 0, none⟩) xs.length cap) xs.length (flat4 xs)) {j : Nat} {x : I4} (hx : xs[j]? = some x) : w.rangeAt G (j * 4) [.int .i64 x.1, .int .i64 x.2.1, .int .i64 x.2.2.1, .int .i64 x.2.2.2] := by
 have hl : j < xs.length := (List.getElem?_eq_some_iff.1 hx).1
 have hg : xs.getD j (0, 0, 0, 0) = x := by simp [List.getD, hx]
 obtain ⟨f0, f1, f2, f3⟩ := flat4_at xs j hl
 rw [hg] at f0 f1 f2 f3
 intro q v hq
 have hq4 : q < 4 := by have := (List.getElem?_eq_some_iff.1 hq).1; simpa using this
 rw [h.cellAt (j * 4 + q) (by omega)]
 match q, hq4 with
 | 0, _ => simp at hq; subst hq; exact f0
 | 1, _ => simp at hq; subst hq; exact f1
 | 2, _ => simp at hq; subst hq; exact f2
 | 3, _ => simp at hq; subst hq; exact f3


def bugsI (rows : List (List I3)) (m : V4) : List I3 := if stuckM rows m then [(14, 0, 0)] else (enabM rows m 3).flatMap (ownM rows m)
theorem mem_foundM {rows : List (List I3)} {m : V4} {k : Int} {x : I3} : x ∈ foundM rows m k ↔ x ∈ ownM rows m k ∨ x ∈ deadM rows (goM rows m k).1 := by
 unfold foundM deadM
 split
 ·rw [mem_putB]
  simp
 ·simp
theorem mem_bugsI {rows : List (List I3)} {m : V4} {x : I3} : x ∈ bugsI rows m ↔ x ∈ deadM rows m ∨ ∃ k ∈ enabM rows m 3, x ∈ ownM rows m k := by
 unfold bugsI deadM
 by_cases hs : stuckM rows m = true
 ·rw [if_pos hs, if_pos hs]
  have he : enabM rows m 3 = [] := by
   unfold stuckM at hs
   simp at hs
   exact hs.1
  rw [he]
  simp
 ·rw [if_neg hs, if_neg hs]
  simp
def allI (rows : List (List I3)) (S : List (Rec6 V4)) : List I3 := mergeB (S.flatMap fun r => bugsI rows r.1) []
theorem mem_allI {rows : List (List I3)} {S : List (Rec6 V4)} {x : I3} : x ∈ allI rows S ↔ ∃ r ∈ S, x ∈ bugsI rows r.1 := by
 unfold allI
 rw [mem_mergeB]
 simp
def hitS (rows : List (List I3)) (b : I3) (m : V4) : Option (List Int) :=
 if b.1 = 14 then (if stuckM rows m then some [] else none) else ((enabM rows m 3).find? fun k => decide (b ∈ foundM rows m k)).map fun k => [k]
def hitI (rows : List (List I3)) (b : I3) (m : V4) : Option (List Int) :=
 if b ∈ bugsI rows m then some (if b.1 = 14 then [] else [b.2.1]) else none
theorem own_kind {rows : List (List I3)} {m : V4} {k : Int} {x : I3} (h : x ∈ ownM rows m k) : x.2.1 = k ∧ (x.1 = 12 ∨ x.1 = 13) := by
 unfold ownM at h
 split at h
 ·simp at h
 ·rename_i hn
  simp only [List.mem_singleton] at h
  subst h
  refine ⟨rfl, ?_⟩
  rcases step_codeQ m (insM rows m k.toNat) k.toNat with h | h | h
  ·exact absurd h hn
  ·exact .inl h
  ·exact .inr h
theorem dead_kind {rows : List (List I3)} {m : V4} {x : I3} (h : x ∈ deadM rows m) : x = (14, 0, 0) ∧ stuckM rows m = true := by
 unfold deadM at h
 split at h
 ·rename_i hs
  simp only [List.mem_singleton] at h
  exact ⟨h, hs⟩
 ·simp at h
theorem hit_same {rows : List (List I3)} {b : I3} (hb : b.1 = 14 → b = (14, 0, 0)) (m : V4) : hitS rows b m = hitI rows b m := by
 unfold hitS hitI
 by_cases h14 : b.1 = 14
 ·have e := hb h14
  subst e
  simp only [if_true]
  by_cases hs : stuckM rows m = true
  ·rw [if_pos hs, if_pos (mem_bugsI.2 (.inl (by unfold deadM; rw [if_pos hs]; simp)))]
  ·rw [if_neg hs, if_neg]
   intro hx
   rcases mem_bugsI.1 hx with hx | ⟨k, _, hx⟩
   ·exact hs (dead_kind hx).2
   ·have := (own_kind hx).2
    simp at this
 ·simp only [if_neg h14]
  have hown : ∀ k, b ∈ foundM rows m k ↔ b ∈ ownM rows m k := fun k => by
   rw [mem_foundM]
   constructor
   ·rintro (h | h)
    ·exact h
    ·exact absurd (by rw [(dead_kind h).1]) h14
   ·exact .inl
  by_cases hx : b ∈ bugsI rows m
  ·rw [if_pos hx]
   rcases mem_bugsI.1 hx with h | ⟨k, hk, h⟩
   ·exact absurd (by rw [(dead_kind h).1]) h14
   ·have hk' := (own_kind h).1
    cases hf : (enabM rows m 3).find? fun k => decide (b ∈ foundM rows m k) with
    | none =>
     rw [List.find?_eq_none] at hf
     have := hf k hk
     simp [(hown k).2 h] at this
    | some q =>
     have h1 := List.find?_some hf
     simp at h1
     have := (own_kind ((hown q).1 h1)).1
     simp [this]
  ·rw [if_neg hx]
   have hf : ((enabM rows m 3).find? fun k => decide (b ∈ foundM rows m k)) = none := by
    rw [List.find?_eq_none]
    intro k hk
    simp only [decide_eq_true_eq]
    intro h
    exact hx (mem_bugsI.2 (.inr ⟨k, hk, (hown k).1 h⟩))
   rw [hf]
   rfl


def fndJ (rows : List (List I3)) (m : V4) (j : Nat) : List I3 := ((enabM rows m 3).take j).flatMap (ownM rows m)
theorem fndJ_succ {rows : List (List I3)} {m : V4} {j : Nat} {k : Int} (h : (enabM rows m 3)[j]? = some k) : fndJ rows m (j + 1) = fndJ rows m j ++ ownM rows m k := by
 unfold fndJ
 rw [List.take_add_one, h]
 simp
theorem fndJ_len (rows : List (List I3)) (m : V4) : ∀ j, (fndJ rows m j).length ≤ j
 | 0 => by simp [fndJ]
 | j + 1 => by
  have ih := fndJ_len rows m j
  cases h : (enabM rows m 3)[j]? with
  | none =>
   have e : fndJ rows m (j + 1) = fndJ rows m j := by unfold fndJ; rw [List.take_add_one, h]; simp
   rw [e]
   omega
  | some k =>
   rw [fndJ_succ h, List.length_append]
   have := ownM_len rows m k
   omega
theorem flat_snoc6 (xs : List I3) (x : I3) : flat (xs ++ [x]) = flat xs ++ [.int .i64 x.1, .int .i64 x.2.1, .int .i64 x.2.2] := by simp [flat, I3.cells]
theorem three_new6 {w : World} {g t : Nat} {a b c : Value} (h : Blk w g t [a, b, c]) : ∀ j u, [a, b, c][j]? = some u → w.cell? ((⟨g, 0, none⟩ : Addr).add j) = some u := cells_new h

set_option maxHeartbeats 2000000 in
theorem rbug_is {w : World} {B E : Nat} {cs : Sl × Sl × Sl} {rows : List (List I3)} {F : List (Rec6 V4)} {r : Rec6 V4} {mv : Value} (hE : Blk w E 89 (rcC cs r mv)) (hmv : w.ownsRow B 158 4 mv (mvsOf rows F r.1).length (flat4 (mvsOf rows F r.1))) (hp : progOk rows = true) (hs : shapeOk r.1 = true) (hI : ∀ k, k < 3 → Instrs w (slK cs k).1 (slK cs k).2.1 (slK cs k).2.2 (codeM rows k)) :
  Calls Tryz.prog 59 #[.pointer (some ⟨E, 0, none⟩)] w fun e w' => BugsOne e w' w.heap.size (bugsI rows r.1) ∧ Below w.heap.size w w' := by
 obtain ⟨i0, hi9, hz0, hz1, hz2⟩ := info_parts info_bug
 have kU := Rq.stuck_is E cs rows r.1 w ⟨⟨_, _, _, _, hE⟩, hI⟩ hp hs
 have hml : (mvsOf rows F r.1).length = (enabM rows r.1 3).length := by simp [mvsOf]
 have hen := enabM_len rows r.1 3
 cases hst : stuckM rows r.1
 ·rw [hst] at kU
  have HB : Hid (bugsI rows r.1 = fndJ rows r.1 (enabM rows r.1 3).length) := by
   rw [Hid]
   unfold bugsI fndJ
   rw [hst, List.take_length]
   rfl
  obtain ⟨ma, mc, rfl⟩ : ∃ ma mc, mv = .slice ma (mvsOf rows F r.1).length mc := by
   rcases hmv.2 with ⟨h1, h2⟩ | ⟨gq, cq, cur, h1, _⟩
   ·exact ⟨none, 0, by rw [h1, h2]⟩
   ·exact ⟨_, _, h1⟩
  have cM : w.cell? ⟨E, 21, none⟩ = some (.slice ma (mvsOf rows F r.1).length mc) := by rw [hE.cell]; rfl
  have HM : Hid (∀ j k, (enabM rows r.1 3)[j]? = some k → ∃ G, ma = some ⟨G, 0, none⟩ ∧ w.rangeAt G (j * 4) [.int .i64 (goM rows r.1 k).2, .int .i64 k, .int .i64 (r.1.1.getD k.toNat 0), .int .i64 (ixS F (goM rows r.1 k).1 : Int)]) := by
   intro j k hjk
   have hpos : 0 < (mvsOf rows F r.1).length := by
    rw [hml]
    exact Nat.lt_of_le_of_lt (Nat.zero_le _) (List.getElem?_eq_some_iff.1 hjk).1
   obtain ⟨G, c9, e9, _⟩ := own_some6 hmv hpos
   cases e9
   exact ⟨G, rfl, range_move hmv (move_at hjk)⟩
  rw [hml] at cM
  obtain ⟨n, hn⟩ : ∃ n, n = (enabM rows r.1 3).length := ⟨_, rfl⟩
  rw [← hn] at cM hen HB
  have HN : Hid (n = (enabM rows r.1 3).length) := hn
  clear hn hml hmv hE hst hI
  go_enter Tryz.func59, Tryz.ntmps59
  go_wp2_with fail
  refine kU.mono ?_
  rintro e w1 ⟨rfl, bw⟩
  have cM1 := cells_kept bw _ _ cM
  have st : w1.ownsRow w.heap.size 53 3 (.slice none 0 0) (fndJ rows r.1 0).length (flat (fndJ rows r.1 0)) := World.ownsRow_nil _ _ _ _
  clear kU cM
  go_wp2_with fail
  go_loopw [3, 17] (fun s3 s17 wr => ∃ j : Nat, s17 = .int .i64 j ∧ j ≤ n ∧ wr.ownsRow w.heap.size 53 3 s3 (fndJ rows r.1 j).length (flat (fndJ rows r.1 j)) ∧ Below w.heap.size w wr) (fun _ s17 _ => n - (intOf s17).toNat)
  case atStart => exact ⟨0, rfl, Nat.zero_le _, st, bw⟩
  case round =>
   clear st bw cM1
   obtain ⟨j, rfl, hjn, q, bw⟩ := hrel
   obtain ⟨va, vn, vc, rfl⟩ := own_slice6 q
   by_cases hlt : j < n
   ·have hkj : (enabM rows r.1 3)[j]? = some ((enabM rows r.1 3).getD j 0) := by rw [List.getD, List.getElem?_eq_getElem (by rw [← HN.out]; exact hlt)]; rfl
    generalize (enabM rows r.1 3).getD j 0 = k at hkj
    obtain ⟨G, rfl, hrg⟩ := HM.out j k hkj
    have hfs := fndJ_succ hkj
    have hfl := fndJ_len rows r.1 j
    unfold ownM at hfs
    have hrw : wr.rangeAt G (j * 4) [.int .i64 (goM rows r.1 k).2, .int .i64 k, .int .i64 (r.1.1.getD k.toNat 0), .int .i64 (ixS F (goM rows r.1 k).1 : Int)] := fun q v hq => cells_kept bw _ _ (hrg q v hq)
    generalize ixS F (goM rows r.1 k).1 = ix at *
    generalize (goM rows r.1 k).2 = f at *
    generalize r.1.1.getD k.toNat 0 = pc at *
    have hlt3 : (j : Int) < (n : Int) := by omega
    have hj0 : (0 : Int) ≤ (j : Int) := by omega
    clear hkj hrg
    have pN := Blk.new wr 158 [.int .i64 0, .int .i64 0, .int .i64 0, .int .i64 0]
    have hbN : Below wr.heap.size wr (wr.alloc (.cells #[.int .i64 0, .int .i64 0, .int .i64 0, .int .i64 0] 158)) := by go_grown
    go_wp2_with (first | refine wpList_load_mid rfl 158 _ rfl G (j * 4) rfl [.int .i64 f, .int .i64 k, .int .i64 pc, .int .i64 (ix : Int)] _ hrw Tryz.underlying158 rfl (by kernel_rfl) ?_ | refine wpList_store_blk rfl 158 _ _ rfl wr.heap.size [.int .i64 f, .int .i64 k, .int .i64 pc, .int .i64 (ix : Int)] rfl rfl pN (by kernel_rfl) rfl rfl ?_)
    intro w3 p3 g3
    have pQ := p3.out
    have b3 : Below wr.heap.size wr w3 := hbN.grown g3 hbN.size (fun q e => by cases e; exact Nat.le_refl _)
    replace bw := bel_trans bw b3
    replace q := owns_below q b3
    have cQ : w3.cell? ⟨wr.heap.size, 0, none⟩ = some (.int .i64 f) := by simpa using pQ.cell 0
    have rQ : w3.rangeAt wr.heap.size 0 [.int .i64 f, .int .i64 k, .int .i64 pc] := fun i v hi => by
     rw [Nat.zero_add, pQ.cell]
     have hi3 : i < 3 := by have := (List.getElem?_eq_some_iff.1 hi).1; simpa using this
     match i, hi3 with
     | 0, _ => exact hi
     | 1, _ => exact hi
     | 2, _ => exact hi
    clear p3 g3 pN hbN b3 hrw pQ
    generalize wr.heap.size = Q at *
    by_cases hf : f = 0
    ·subst hf
     rw [if_pos rfl, List.append_nil] at hfs
     have st9 : w3.ownsRow w.heap.size 53 3 (.slice va vn vc) (fndJ rows r.1 (j + 1)).length (flat (fndJ rows r.1 (j + 1))) := by rw [hfs]; exact q
     clear hfs q rQ
     go_wp2
     go_roundw
     case rel => exact ⟨j + 1, by go_num, by omega, st9, bw⟩
     case measure => simp [intOf]; omega
    ·rw [if_neg hf] at hfs
     have hfn : (f != 0) = true := by simp [hf]
     have HFS : Hid (fndJ rows r.1 (j + 1) = fndJ rows r.1 j ++ [(f, k, pc)]) := hfs
     clear hfs hf
     go_wp2_with (first | refine wpList_load_mid rfl 53 _ rfl Q 0 rfl [.int .i64 f, .int .i64 k, .int .i64 pc] _ rQ Tryz.underlying53 rfl (by kernel_rfl) ?_ | (at_builtin; refine wpList_append_own_at _ rfl _ _ 45 rfl w.heap.size 53 i0 (.agg #[.int .i64 0, .int .i64 0, .int .i64 0]) 3 24 Tryz.underlying45 hi9 hz0 hz1 hz2 rfl (by decide) _ _ _ rfl (q.alloc _) ⟨w3.heap.size, 0, none⟩ 1 1 [.int .i64 f, .int .i64 k, .int .i64 pc] rfl rfl (three_new6 (blkAt _ _ _ rfl)) (three_one _ _ _) ?c3 ?c4 ?c5 ?_))
     case c3 => unfold maxLen; omega
     case c4 => omega
     case c5 => have := bw.size; simp; omega
     intro v6 w4 q6 gr _ at6
     have ha : Below w3.heap.size w3 (w3.alloc (.cells #[.int .i64 f, .int .i64 k, .int .i64 pc] 53)) := by go_grown
     have bw4 := (bel_trans bw ha).grown gr (bel_trans bw ha).size (fun q9 e => (own_lt3 (q.alloc (.cells #[.int .i64 f, .int .i64 k, .int .i64 pc] 53)) e).1)
     have st9 : w4.ownsRow w.heap.size 53 3 v6 (fndJ rows r.1 (j + 1)).length (flat (fndJ rows r.1 (j + 1))) := by
      rw [HFS.out, flat_snoc6, List.length_append]
      exact q6
     clear ha gr at6 q6 q bw rQ cQ HFS
     go_wp2
     go_roundw
     case rel => exact ⟨j + 1, by go_num, by omega, st9, bw4⟩
     case measure => simp [intOf]; omega
   ·have hge : ¬ (j : Int) < (n : Int) := by omega
    obtain rfl : j = n := by omega
    have HG : Hid (BugsOne (.returned (.slice va vn vc)) wr w.heap.size (bugsI rows r.1)) := by rw [HB.out]; exact ⟨_, rfl, q⟩
    clear q HB HM
    go_wp2
    go_ret
    exact ⟨HG.out, bw⟩
 ·rw [hst] at kU
  have HB : Hid (bugsI rows r.1 = [(14, 0, 0)]) := by
   rw [Hid]
   unfold bugsI
   rw [hst]
   rfl
  clear hst hml hmv hE hI hen
  go_enter Tryz.func59, Tryz.ntmps59
  go_wp2_with fail
  refine kU.mono ?_
  rintro e w1 ⟨rfl, bw⟩
  have hbs := bw.size
  have HG : Hid (BugsOne (.returned (.slice (some ⟨w1.heap.size, 0, none⟩) 1 1)) (w1.alloc (.cells #[.int .i64 14, .int .i64 0, .int .i64 0] 53)) w.heap.size (bugsI rows r.1)) := by
   rw [HB.out]
   exact ⟨_, rfl, World.ownsRow_lit w1 #[.int .i64 14, .int .i64 0, .int .i64 0] 1 hbs (by unfold maxLen; omega) (by simp)⟩
  have b2 : Below w.heap.size w (w1.alloc (.cells #[.int .i64 14, .int .i64 0, .int .i64 0] 53)) := bel_trans bw (by go_grown)
  clear kU HB
  go_wp2
  go_ret
  exact ⟨HG.out, b2⟩


def hasW : List I3 → I3 → Bool
 | [], _ => false
 | y :: l, x => decide (y = x) || hasW l x
theorem hasW_iff {x : I3} : ∀ {l : List I3}, hasW l x = true ↔ x ∈ l
 | [] => by simp [hasW]
 | y :: l => by
  have h := hasW_iff (x := x) (l := l)
  show (decide (y = x) || hasW l x) = true ↔ _
  rw [Bool.or_eq_true, h, List.mem_cons, decide_eq_true_iff]
  exact or_congr ⟨Eq.symm, Eq.symm⟩ Iff.rfl
theorem hasW_step {xs : List I3} {k : Nat} (hk : k < xs.length) (y : I3) : hasW (xs.drop k) y = (decide (xs.getD k (0, 0, 0) = y) || hasW (xs.drop (k + 1)) y) := by
 rw [List.drop_eq_getElem_cons hk]
 simp [hasW, List.getD, List.getElem?_eq_getElem hk]
theorem below_dNW {w W : World} (h : Below w.heap.size w W) (d : Nat) : Below w.heap.size w (W.drewN d) := bel_trans h (below_dN d)
def IdxW (e : Ending) (b : Bool) : Prop := ∃ r : Int, e = .returned (.int .i64 r) ∧ decide (0 ≤ r) = b

set_option maxHeartbeats 2000000 in
theorem index_is (a : Option Addr) (n cap : Nat) (xs : List I3) (y : I3) (w : World) (h : Instrs w a n cap xs) (hn : n ≤ 1000000) :
  Calls Tryz.prog 95 #[.slice a n cap, y.val] w fun e w' => IdxW e (hasW xs y) ∧ Below w.heap.size w w' := by
 have hl := h.1
 obtain ⟨r, hr⟩ : ∃ r, r = hasW xs y := ⟨_, rfl⟩
 rw [← hr]
 have HR : Hid (r = hasW (xs.drop 0) y) := by rw [Hid]; simpa using hr
 clear hr
 obtain ⟨y0, y1, y2⟩ := y
 unfold I3.val
 simp only
 have bw0 : Below w.heap.size w (w.alloc (.cells #[.int .i64 y0, .int .i64 y1, .int .i64 y2] 53)) := by go_grown
 have c0 : (w.alloc (.cells #[.int .i64 y0, .int .i64 y1, .int .i64 y2] 53)).cell? ⟨w.heap.size, 0, none⟩ = some (.int .i64 y0) := by simp [go_sem]
 have c1 : (w.alloc (.cells #[.int .i64 y0, .int .i64 y1, .int .i64 y2] 53)).cell? ⟨w.heap.size, 1, none⟩ = some (.int .i64 y1) := by simp [go_sem]
 have c2 : (w.alloc (.cells #[.int .i64 y0, .int .i64 y1, .int .i64 y2] 53)).cell? ⟨w.heap.size, 2, none⟩ = some (.int .i64 y2) := by simp [go_sem]
 go_enter Tryz.func95, Tryz.ntmps95
 go_wp2_with fail
 generalize (w.alloc (.cells #[.int .i64 y0, .int .i64 y1, .int .i64 y2] 53)) = W0 at *
 go_loopw [8] (fun si wr => ∃ k : Nat, k ≤ n ∧ si = .int .i64 k ∧ Hid (r = hasW (xs.drop k) (y0, y1, y2)) ∧ Below w.heap.size w wr ∧ wr.cell? ⟨w.heap.size, 0, none⟩ = some (.int .i64 y0) ∧ wr.cell? ⟨w.heap.size, 1, none⟩ = some (.int .i64 y1) ∧ wr.cell? ⟨w.heap.size, 2, none⟩ = some (.int .i64 y2)) (fun si _ => n - (intOf si).toNat)
 case atStart => exact ⟨0, by omega, rfl, HR, bw0, c0, c1, c2⟩
 case round =>
  clear HR bw0 c0 c1 c2
  obtain ⟨k, hk, rfl, HR, bw, c0, c1, c2⟩ := hrel
  by_cases hlt : k < n
  ·obtain ⟨_, _, _, _, hcase⟩ := h.below bw
   rcases hcase with e0 | ⟨b, off, rfl, hb, hc⟩
   ·omega
   obtain ⟨d0, d1, d2⟩ := hc k hlt
   clear hc hb
   have hst := hasW_step (xs := xs) (k := k) (by omega) (y0, y1, y2)
   generalize xs.getD k (0, 0, 0) = x at d0 d1 d2 hst
   have HS : Hid (hasW (xs.drop k) (y0, y1, y2) = (decide (x = (y0, y1, y2)) || hasW (xs.drop (k + 1)) (y0, y1, y2))) := hst
   clear hst
   have hlt' : (k : Int) < (n : Int) := by omega
   have hk0 : (0 : Int) ≤ (k : Int) := by omega
   obtain ⟨x0, x1, x2⟩ := x
   simp only at d0 d1 d2
   by_cases hE : (x0, x1, x2) = (y0, y1, y2)
   ·cases hE
    have HF : Hid (r = true) := by rw [Hid, HR.out, HS.out]; simp
    clear HS HR
    have q0 : (y0 == y0) = true := by simp
    have q1 : (y1 == y1) = true := by simp
    have q2 : (y2 == y2) = true := by simp
    go_wp2_with fail
    go_quiet (fail)
    have bwd := below_dNW bw nq
    generalize wr.drewN nq = U at *
    clear d0 d1 d2 c0 c1 c2 bw q0 q1 q2
    go_wp2
    go_ret
    exact ⟨⟨k, rfl, by rw [HF.out]; simp⟩, bwd⟩
   ·have HF : Hid (r = hasW (xs.drop (k + 1)) (y0, y1, y2)) := by rw [Hid, HR.out, HS.out]; simp only [hE, decide_false, Bool.false_or]
    clear HS HR
    have h3 : x0 ≠ y0 ∨ (x0 = y0 ∧ x1 ≠ y1) ∨ (x0 = y0 ∧ x1 = y1 ∧ x2 ≠ y2) := by
     by_cases q0 : x0 = y0
     ·by_cases q1 : x1 = y1
      ·refine .inr (.inr ⟨q0, q1, fun q2 => hE ?_⟩)
       rw [q0, q1, q2]
      ·exact .inr (.inl ⟨q0, q1⟩)
     ·exact .inl q0
    clear hE
    go_wp2_with fail
    rcases h3 with t0 | ⟨rfl, t1⟩ | ⟨rfl, rfl, t2⟩
    ·have t0' : (y0 == x0) = false := by simp [Ne.symm t0]
     go_quiet (fail)
     have bwd := below_dNW bw nq
     replace c0 : (wr.drewN nq).cell? ⟨w.heap.size, 0, none⟩ = some (.int .i64 y0) := c0
     replace c1 : (wr.drewN nq).cell? ⟨w.heap.size, 1, none⟩ = some (.int .i64 y1) := c1
     replace c2 : (wr.drewN nq).cell? ⟨w.heap.size, 2, none⟩ = some (.int .i64 y2) := c2
     generalize wr.drewN nq = U at *
     clear d0 d1 d2 bw  t0 t0'
     go_wp2
     go_roundw
     case rel => exact ⟨k + 1, by omega, by go_num, HF, bwd, c0, c1, c2⟩
     case measure => simp [intOf]; omega
    ·have q0 : (x0 == x0) = true := by simp
     have t1' : (y1 == x1) = false := by simp [Ne.symm t1]
     go_quiet (fail)
     have bwd := below_dNW bw nq
     replace c0 : (wr.drewN nq).cell? ⟨w.heap.size, 0, none⟩ = some (.int .i64 x0) := c0
     replace c1 : (wr.drewN nq).cell? ⟨w.heap.size, 1, none⟩ = some (.int .i64 y1) := c1
     replace c2 : (wr.drewN nq).cell? ⟨w.heap.size, 2, none⟩ = some (.int .i64 y2) := c2
     generalize wr.drewN nq = U at *
     clear d0 d1 d2 bw q0 t1 t1'
     go_wp2
     go_roundw
     case rel => exact ⟨k + 1, by omega, by go_num, HF, bwd, c0, c1, c2⟩
     case measure => simp [intOf]; omega
    ·have q0 : (x0 == x0) = true := by simp
     have q1 : (x1 == x1) = true := by simp
     have t2' : (y2 == x2) = false := by simp [Ne.symm t2]
     go_quiet (fail)
     have bwd := below_dNW bw nq
     replace c0 : (wr.drewN nq).cell? ⟨w.heap.size, 0, none⟩ = some (.int .i64 x0) := c0
     replace c1 : (wr.drewN nq).cell? ⟨w.heap.size, 1, none⟩ = some (.int .i64 x1) := c1
     replace c2 : (wr.drewN nq).cell? ⟨w.heap.size, 2, none⟩ = some (.int .i64 y2) := c2
     generalize wr.drewN nq = U at *
     clear d0 d1 d2 bw q0 q1 t2 t2'
     go_wp2
     go_roundw
     case rel => exact ⟨k + 1, by omega, by go_num, HF, bwd, c0, c1, c2⟩
     case measure => simp [intOf]; omega
  ·obtain rfl : k = n := by omega
   have HF : Hid (r = false) := by rw [Hid, HR.out, List.drop_of_length_le (by omega)]; rfl
   clear HR c0 c1 c2
   go_wp2
   go_ret
   exact ⟨⟨-1, rfl, by rw [HF.out]; simp⟩, bw⟩

set_option maxHeartbeats 1000000 in
theorem contains_is (a : Option Addr) (n cap : Nat) (xs : List I3) (y : I3) (w : World) (h : Instrs w a n cap xs) (hn : n ≤ 1000000) :
  Calls Tryz.prog 58 #[.slice a n cap, y.val] w fun e w' => e = .returned (.bool (hasW xs y)) ∧ Below w.heap.size w w' := by
 have kI := fun W hb => index_is a n cap xs y W hb hn
 obtain ⟨r, hr⟩ : ∃ r, r = hasW xs y := ⟨_, rfl⟩
 rw [← hr] at kI ⊢
 clear hr
 obtain ⟨y0, y1, y2⟩ := y
 unfold I3.val at *
 simp only at kI ⊢
 have bw : Below w.heap.size w (w.alloc (.cells #[.int .i64 y0, .int .i64 y1, .int .i64 y2] 53)) := by go_grown
 go_enter Tryz.func58, Tryz.ntmps58
 go_wp2_with fail
 refine (kI _ (h.below bw)).mono ?_
 rintro e w1 ⟨⟨i, rfl, hi⟩, hb⟩
 replace bw := bel_trans bw hb
 replace hi : decide (i ≥ 0) = r := hi
 clear kI hb h
 go_wp2
 go_ret
 exact ⟨rfl, bw⟩
end Go.Proofs.YtcdpcfnlflpjnaaGreatDoor
