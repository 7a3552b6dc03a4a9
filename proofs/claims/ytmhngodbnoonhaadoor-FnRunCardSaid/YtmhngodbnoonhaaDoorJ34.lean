/-
  FnRun, part 34 of 50 (SchD, TakM, RyI, RpA).
-/
import Derived.Test.YtmhngodbnoonhaaDoorJ33
import Derived.Test.YtmhngodbnoonhaaDoorJ20
import Derived.Test.YtmhngodbnoonhaaDoorJ07
import Derived.Test.YtmhngodbnoonhaaDoorJ08
import Derived.Test.YtmhngodbnoonhaaDoorJ22
import Derived.Test.YtmhngodbnoonhaaDoorJ31
import Derived.Stop.Asserts

/-
  The specification's ScheduleDrawn.
-/
namespace Go.Proofs.YtmhngodbnoonhaaDoor
open Go.RowKit
set_option linter.unusedVariables false
set_option linter.unusedSimpArgs false

set_option maxHeartbeats 1000000 in
set_option maxRecDepth 100000 in
theorem scheduleDrawn_any (a : Option Addr) (n cap : Nat) (zs : List Int) (aP : Option Addr) (capP : Nat) (rows : List (List I3)) (w : World) (hI : IsRow .u8 w a n cap zs) (hn : n ≤ 1048576) (hP : Codes w aP 3 capP rows) (hok : progOk rows = true) :
    Calls Tryd.prog 12 #[.slice a n cap, .agg #[.slice aP 3 capP]] w fun e w' => SchGot e w' w.heap.size rows ∧ Below w.heap.size w w' := by
  have hCo := code_of hI hn
  have bw : Below w.heap.size w (w.alloc (.cells #[.slice aP 3 capP] 25)) := by go_grown
  have pP : Blk (w.alloc (.cells #[.slice aP 3 capP] 25)) w.heap.size 25 [.slice aP 3 capP] := blkAt _ _ _ rfl
  go_enter Tryd.func12, Tryd.ntmps12
  go_wp2_with fail
  have hX : w.heap.size < (w.alloc (.cells #[.slice aP 3 capP] 25)).heap.size := pP.lt
  generalize (w.alloc (.cells #[.slice aP 3 capP] 25)) = W1 at *
  have bw1 := bw
  have cP : W1.cell? ⟨w.heap.size, 0, none⟩ = some (.slice aP 3 capP) := pP.cell 0
  refine wp_region_held_drew (S := (fun w' => w'.cell? ⟨w.heap.size, 0, none⟩ = some (.slice aP 3 capP))) (by kernel_rfl) cP (fun hS0 => ?_)
  refine wpAnyH_take (i := 0) (oi := { dst := some 5, op := _, type := _, pos := _, after := _, guard := _ }) (v := (.slice a n cap)) rfl (by kernel_rfl) (by kernel_rfl) (by kernel_rfl) (fun _ _ _ h => h) (Or.inl ⟨by rfl, ?_⟩) (by assumption) ?_
  · (intro w' hSw; (try dsimp only at hSw); go_simp; try rfl)
  simp only [Act.put, List.setIfInBounds_toArray, List.set_cons_zero, List.set_cons_succ]
  refine wpAnyH_take (i := 2) (oi := { dst := some 7, op := _, type := _, pos := _, after := _, guard := _ }) (v := (.agg #[.slice aP 3 capP])) rfl (by kernel_rfl) (by kernel_rfl) (by kernel_rfl) (fun _ _ _ h => h) (Or.inl ⟨by rfl, ?_⟩) (by assumption) ?_
  · (intro w' hSw; (try dsimp only at hSw); go_simp; try rfl)
  simp only [Act.put, List.setIfInBounds_toArray, List.set_cons_zero, List.set_cons_succ]
  refine wpAnyH_ready (rs := [1]) (by kernel_rfl) (by simp) ?_
  refine AllReadyH.cons (o := { dst := some 6, op := _, type := _, pos := _, after := _, guard := _ }) rfl (fun K hK => ?_) AllReadyH.nil
  go_simp
  refine (l00Source_any a n cap W1.drew hn).mono ?_
  rintro e w2 ⟨rfl, hS, hb⟩
  replace hS : Src w2 W1.heap.size (.slice a n cap) 0 := hS
  replace hb : Below W1.heap.size W1 w2 := ⟨hb.os, hb.tape, hb.output, hb.size, hb.block⟩
  have hpl : W1.heap.size < w2.heap.size := hS.lt
  have hCd : Code w2 W1.heap.size a n cap := by
    obtain ⟨zs', q1, q2, q3, q4⟩ := hCo
    exact ⟨zs', q1.below (bel_trans bw hb), q2, q3, fun x hx h0 => by have := q4 x hx h0; have := bw.size; omega⟩
  replace bw := bel_trans bw hb
  replace pP := pP.below hb
  have hPr : ∀ W, Below W1.heap.size w2 W → Codes W aP 3 capP rows := fun W h => (hP.below bw1).below (hb.trans h)
  have cP2 : w2.cell? ⟨w.heap.size, 0, none⟩ = some (.slice aP 3 capP) := pP.cell 0
  go_wp2_with fail
  refine hK.out _ _ cP2 (fun hS1 => ?_)
  clear hK
  try simp only [Act.put, List.setIfInBounds_toArray, List.set_cons_zero, List.set_cons_succ]
  refine wpAnyH_ready (rs := [3]) (by kernel_rfl) (by simp) ?_
  refine AllReadyH.cons (o := { dst := some 8, op := _, type := _, pos := _, after := _, guard := _ }) rfl (fun K hK => ?_) AllReadyH.nil
  go_simp
  refine (schedule_any W1.heap.size 0 a n cap aP capP rows w2 hS hCd (by omega) hok hPr).mono ?_
  rintro e w3 ⟨⟨v, ks, m, hsm, rfl, q, hl, hg⟩, hb3⟩
  have cP3 : w3.cell? ⟨w.heap.size, 0, none⟩ = some (.slice aP 3 capP) := (pP.belowB hb3 (by omega)).cell 0
  have hw2 : w.heap.size ≤ w2.heap.size := bw.size
  replace bw : Below w.heap.size w w3 := bw.trans (hb3.mono (by omega))
  go_wp2_with fail
  refine hK.out _ _ cP3 (fun hS2 => ?_)
  clear hK
  try simp only [Act.put, List.setIfInBounds_toArray, List.set_cons_zero, List.set_cons_succ]
  refine wpAnyH_take (i := 4) (oi := { dst := some 4, op := _, type := _, pos := _, after := _, guard := _ }) (v := v) rfl (by kernel_rfl) (by kernel_rfl) (by kernel_rfl) (fun _ _ _ h => h) (Or.inl ⟨by rfl, ?_⟩) (by assumption) ?_
  · (intro w' hSw; (try dsimp only at hSw); go_simp; try rfl)
  simp only [Act.put, List.setIfInBounds_toArray, List.set_cons_zero, List.set_cons_succ]
  refine wpAnyH_done (by kernel_rfl) ?_ _
  have hG : SchGot (.returned v) w3 w.heap.size rows := ⟨v, ks, m, hsm, rfl, own_lowerB q hw2, hl, hg⟩
  clear hS hCd hPr pP hS0 hS1 hS2 cP2 cP3 q hsm
  go_wp2_with fail
  go_ret
  exact ⟨hG, bw⟩
end Go.Proofs.YtmhngodbnoonhaaDoor


/-
  The program's take: a step of a thread that can go on, with what it found.
-/
namespace Go.Proofs.YtmhngodbnoonhaaDoor
open Go.RowKit
set_option linter.unusedVariables false
set_option linter.unusedSimpArgs false

theorem grown_box {a b c : World} {r : Option Nat} {j : Nat} (h : a.grownBy b r) (k : b.grownBy c (some j)) (hj : a.heap.size ≤ j) : a.grownBy c r :=
  ⟨k.os.trans h.os, k.tape.trans h.tape, k.output.trans h.output, Nat.le_trans h.size k.size, fun i hi hr => (k.block i (Nat.lt_of_lt_of_le hi h.size) (by simp; omega)).trans (h.block i hi hr)⟩

set_option maxHeartbeats 2000000 in
set_option maxRecDepth 100000 in
theorem take_is {w : World} {g : Nat} {cs : Sl × Sl × Sl} {rows : List (List I3)} {m : V4} (h : MachAt w g cs rows m) (hp : progOk rows = true) (hs : shapeOk m = true) {k : Nat} (hk : k < 3) (hd : doneM rows m k = false) :
    Calls Tryd.prog 125 #[.pointer (some ⟨g, 0, none⟩), .int .i64 k] w fun e w' => e = .returned (.agg #[.int .i64 (stepM m (insM rows m k) k).2, .int .i64 k, .int .i64 (m.1.getD k 0)]) ∧ Blk w' g 86 (machCells cs.1.val cs.2.1.val cs.2.2.val (stepM m (insM rows m k) k).1) ∧ w.grownBy w' (some g) := by
  have kS := fun W (hM : MachAt W g cs rows m) => step_is hM hp hs hk hd
  generalize stepM m (insM rows m k) k = zf at *
  obtain ⟨z, f⟩ := zf
  simp only at kS ⊢
  have hk3 : (k : Int) < 3 := by omega
  obtain ⟨pc, hpc⟩ : ∃ pc, pc = m.1.getD k 0 := ⟨_, rfl⟩
  rw [← hpc]
  have HPc : Hid (pc = m.1.getD k 0) := hpc
  clear hd hp hs hpc
  have hgl := h.1.lt
  have pB := Blk.new w 40 [.int .i64 0, .int .i64 0, .int .i64 0]
  have bz : Below w.heap.size w (w.alloc (.cells #[.int .i64 0, .int .i64 0, .int .i64 0] 40)) := by go_grown
  replace h := h.below bz
  have r1 := h.pc hk
  rw [← HPc.out] at r1
  clear HPc
  have kSx := kS _ h
  clear kS h
  go_enter Tryd.func125, Tryd.ntmps125
  go_wp2_with fail
  refine kSx.mono ?_
  rintro e w2 ⟨rfl, hM2, g2⟩
  have gz : w.grownBy w2 (some g) := grown_tr (grown_new bz) g2
  have pB2 := pB.kept g2 (by simp; omega)
  have hsz := gz.size
  clear kSx g2 bz r1 pB
  obtain ⟨GB, hGB⟩ : ∃ GB, GB = w.heap.size := ⟨_, rfl⟩
  have hwj : w.heap.size ≤ GB := by omega
  rw [← hGB] at pB2 hgl ⊢
  clear hGB hsz
  go_wp2_with (refine wpList_store_blk rfl 40 _ _ rfl GB [.int .i64 f, .int .i64 k, .int .i64 pc] rfl rfl pB2 (by kernel_rfl) rfl rfl ?_)
  intro W9 pR2 g3
  have hM3 := hM2.kept g3 (by simp; omega)
  go_wp2
  refine bodyPost_ret (results_blk1 Tryd.results125 _ _ _ _ _ _ rfl pR2.out Tryd.underlying40 rfl (by kernel_rfl)) rfl ?_
  exact ⟨rfl, hM3, grown_box gz g3 hwj⟩

end Go.Proofs.YtmhngodbnoonhaaDoor


/-
  A replay in memory: its machine's cells, and behind them what it found.
-/
namespace Go.Proofs.YtmhngodbnoonhaaDoor
namespace Rp
open Go.RowKit
set_option linter.unusedVariables false
set_option linter.unusedSimpArgs false
variable {fv : Value}

/-- A replay's cells. -/
def machR (fv c0 c1 c2 : Value) (m : V4) : List Value :=
  [c0, .int .i64 (m.1.getD 0 0), .int .i64 (m.2.2.2.getD 0 0), .int .i64 (m.2.2.2.getD 1 0),
   c1, .int .i64 (m.1.getD 1 0), .int .i64 (m.2.2.2.getD 2 0), .int .i64 (m.2.2.2.getD 3 0),
   c2, .int .i64 (m.1.getD 2 0), .int .i64 (m.2.2.2.getD 4 0), .int .i64 (m.2.2.2.getD 5 0),
   .int .i64 (m.2.1.getD 0 0), .int .i64 (m.2.1.getD 1 0), .int .i64 (m.2.1.getD 2 0), .int .i64 (m.2.1.getD 3 0),
   .int .i64 (m.2.2.1.getD 0 0), .int .i64 (m.2.2.1.getD 1 0), fv]
theorem machR_found (fv c0 c1 c2 : Value) (m : V4) : (machR fv c0 c1 c2 m)[18]? = some fv := rfl
theorem machR_set (fv fv' c0 c1 c2 : Value) (m : V4) : (machR fv c0 c1 c2 m).set 18 fv' = machR fv' c0 c1 c2 m := rfl
section
variable (c0 c1 c2 : Value) (m : V4)
theorem mc_code {k : Nat} (hk : k < 3) : (machR fv c0 c1 c2 m)[k * 4]? = some (codeV c0 c1 c2 k) := by
  match k, hk with
  | 0, _ => rfl
  | 1, _ => rfl
  | 2, _ => rfl
theorem mc_pc {k : Nat} (hk : k < 3) : (machR fv c0 c1 c2 m)[k * 4 + 1]? = some (.int .i64 (m.1.getD k 0)) := by
  match k, hk with
  | 0, _ => rfl
  | 1, _ => rfl
  | 2, _ => rfl
theorem mc_reg {k a : Nat} (hk : k < 3) (ha : a < 2) : (machR fv c0 c1 c2 m)[k * 4 + 2 + a]? = some (.int .i64 (m.2.2.2.getD (k * 2 + a) 0)) := by
  match k, hk, a, ha with
  | 0, _, 0, _ => rfl
  | 1, _, 0, _ => rfl
  | 2, _, 0, _ => rfl
  | 0, _, 1, _ => rfl
  | 1, _, 1, _ => rfl
  | 2, _, 1, _ => rfl
theorem mc_var {a : Nat} (ha : a < 4) : (machR fv c0 c1 c2 m)[12 + a]? = some (.int .i64 (m.2.1.getD a 0)) := by
  match a, ha with
  | 0, _ => rfl
  | 1, _ => rfl
  | 2, _ => rfl
  | 3, _ => rfl
theorem mc_held {a : Nat} (ha : a < 2) : (machR fv c0 c1 c2 m)[16 + a]? = some (.int .i64 (m.2.2.1.getD a 0)) := by
  match a, ha with
  | 0, _ => rfl
  | 1, _ => rfl
end
section
variable (c0 c1 c2 : Value) (m : V4) (h : LenOk m)
include h
theorem mt_pc {k : Nat} (hk : k < 3) (v : Int) : (machR fv c0 c1 c2 m).set (k * 4 + 1) (.int .i64 v) = machR fv c0 c1 c2 (m.1.set k v, m.2) := by
  obtain ⟨p0, p1, p2, v0, v1, v2, v3, h0, h1, x0, y0, x1, y1, x2, y2, rfl⟩ := h.lists
  match k, hk with
  | 0, _ => rfl
  | 1, _ => rfl
  | 2, _ => rfl
theorem mt_reg {k a : Nat} (hk : k < 3) (ha : a < 2) (v : Int) : (machR fv c0 c1 c2 m).set (k * 4 + 2 + a) (.int .i64 v) = machR fv c0 c1 c2 (m.1, m.2.1, m.2.2.1, m.2.2.2.set (k * 2 + a) v) := by
  obtain ⟨p0, p1, p2, v0, v1, v2, v3, h0, h1, x0, y0, x1, y1, x2, y2, rfl⟩ := h.lists
  match k, hk, a, ha with
  | 0, _, 0, _ => rfl
  | 1, _, 0, _ => rfl
  | 2, _, 0, _ => rfl
  | 0, _, 1, _ => rfl
  | 1, _, 1, _ => rfl
  | 2, _, 1, _ => rfl
theorem mt_var {a : Nat} (ha : a < 4) (v : Int) : (machR fv c0 c1 c2 m).set (12 + a) (.int .i64 v) = machR fv c0 c1 c2 (m.1, m.2.1.set a v, m.2.2.1, m.2.2.2) := by
  obtain ⟨p0, p1, p2, v0, v1, v2, v3, h0, h1, x0, y0, x1, y1, x2, y2, rfl⟩ := h.lists
  match a, ha with
  | 0, _ => rfl
  | 1, _ => rfl
  | 2, _ => rfl
  | 3, _ => rfl
theorem mt_held {a : Nat} (ha : a < 2) (v : Int) : (machR fv c0 c1 c2 m).set (16 + a) (.int .i64 v) = machR fv c0 c1 c2 (m.1, m.2.1, m.2.2.1.set a v, m.2.2.2) := by
  obtain ⟨p0, p1, p2, v0, v1, v2, v3, h0, h1, x0, y0, x1, y1, x2, y2, rfl⟩ := h.lists
  match a, ha with
  | 0, _ => rfl
  | 1, _ => rfl
end
/-- A machine in memory: its block whole, and its threads' codes. -/
def MachAt (fv : Value) (w : World) (g : Nat) (cs : Sl × Sl × Sl) (rows : List (List I3)) (m : V4) : Prop :=
  Blk w g 88 (machR fv cs.1.val cs.2.1.val cs.2.2.val m) ∧ ∀ k, k < 3 → Instrs w (slK cs k).1 (slK cs k).2.1 (slK cs k).2.2 (codeM rows k)
theorem MachAt.below {w w' : World} {g : Nat} {cs : Sl × Sl × Sl} {rows : List (List I3)} {m : V4} (h : MachAt fv w g cs rows m) (hb : Below w.heap.size w w') : MachAt fv w' g cs rows m := ⟨h.1.below hb, fun k hk => (h.2 k hk).below hb⟩
theorem MachAt.code {w : World} {g : Nat} {cs : Sl × Sl × Sl} {rows : List (List I3)} {m : V4} (h : MachAt fv w g cs rows m) {k : Nat} (hk : k < 3) : w.cell? ⟨g, k * 4, none⟩ = some (.slice (slK cs k).1 (slK cs k).2.1 (slK cs k).2.2) := by
  rw [h.1.cell, mc_code _ _ _ _ hk, codeV_sl cs hk]; rfl
theorem MachAt.pc {w : World} {g : Nat} {cs : Sl × Sl × Sl} {rows : List (List I3)} {m : V4} (h : MachAt fv w g cs rows m) {k : Nat} (hk : k < 3) : w.cell? ⟨g, k * 4 + 1, none⟩ = some (.int .i64 (m.1.getD k 0)) := by
  rw [h.1.cell, mc_pc _ _ _ _ hk]
theorem MachAt.reg {w : World} {g : Nat} {cs : Sl × Sl × Sl} {rows : List (List I3)} {m : V4} (h : MachAt fv w g cs rows m) {k a : Nat} (hk : k < 3) (ha : a < 2) : w.cell? ⟨g, k * 4 + 2 + a, none⟩ = some (.int .i64 (m.2.2.2.getD (k * 2 + a) 0)) := by
  rw [h.1.cell, mc_reg _ _ _ _ hk ha]
theorem MachAt.var {w : World} {g : Nat} {cs : Sl × Sl × Sl} {rows : List (List I3)} {m : V4} (h : MachAt fv w g cs rows m) {a : Nat} (ha : a < 4) : w.cell? ⟨g, 12 + a, none⟩ = some (.int .i64 (m.2.1.getD a 0)) := by
  rw [h.1.cell, mc_var _ _ _ _ ha]
theorem MachAt.held {w : World} {g : Nat} {cs : Sl × Sl × Sl} {rows : List (List I3)} {m : V4} (h : MachAt fv w g cs rows m) {a : Nat} (ha : a < 2) : w.cell? ⟨g, 16 + a, none⟩ = some (.int .i64 (m.2.2.1.getD a 0)) := by
  rw [h.1.cell, mc_held _ _ _ _ ha]
theorem doneT_is {w : World} {g : Nat} {cs : Sl × Sl × Sl} {rows : List (List I3)} {m : V4} (h : MachAt fv w g cs rows m) {k : Nat} (hk : k < 3) :
    Calls Tryd.prog 57 #[.pointer (some ⟨g, k * 4, none⟩)] w fun e w' => e = .returned (.bool (doneM rows m k)) ∧ ∃ d, w' = w.drewN d := by
  have hl := (h.2 k hk).1
  have := done_is g (k * 4) _ _ _ _ w (h.code hk) (h.pc hk)
  unfold doneM
  rw [hl]
  exact this
theorem waits_is {w : World} {g : Nat} {cs : Sl × Sl × Sl} {rows : List (List I3)} {m : V4} (h : MachAt fv w g cs rows m) (hp : progOk rows = true) (hs : shapeOk m = true) {k : Nat} (hk : k < 3) :
    Calls Tryd.prog 58 #[.pointer (some ⟨g, 0, none⟩), .int .i64 k] w fun e w' => e = .returned (.bool (waitM rows m k)) ∧ Below w.heap.size w w' := by
  unfold waitM
  cases hd : doneM rows m k
  · obtain ⟨p, ep, hlt, hi, hok⟩ := at_ins hp hs hk hd
    have h0 := h.code hk
    have h1 := h.pc hk
    rw [ep] at h1
    obtain ⟨b, off, ea, hpn, c0, c1, c2⟩ := ins_at (h.2 k hk) hlt
    rw [← hi] at c0 c1 c2
    rw [ea] at h0
    by_cases h5 : (insM rows m k).1 = 5
    · obtain ⟨q, hq, hq2⟩ := okI_lock hok h5
      rw [h5] at c0
      rw [hq] at c1
      have hh := h.held hq2
      have e : atLock m (insM rows m k) = !decide (m.2.2.1.getD q 0 = 0) := by
        unfold atLock
        rw [h5, hq]
        simp
      rw [e]
      exact waits_lock g k p b off _ _ _ q _ w hk hpn h0 h1 c0 c1 c2 hh hq2 _ rfl
    · have e : atLock m (insM rows m k) = false := by unfold atLock; simp [h5]
      rw [e]
      exact waits_free g k p b off _ _ _ _ _ w hk hpn h0 h1 c0 c1 c2 h5
  · have h0 := h.code hk
    have h1 := h.pc hk
    unfold doneM at hd
    simp only [decide_eq_true_eq] at hd
    rw [(h.2 k hk).1] at hd
    exact waits_done g k _ _ _ _ w hk h0 h1 hd

end Rp
end Go.Proofs.YtmhngodbnoonhaaDoor


/-
  A replay's step that halts; what it keeps of an outcome.
-/
namespace Go.Proofs.YtmhngodbnoonhaaDoor
open Go.RowKit
set_option linter.unusedVariables false
set_option linter.unusedSimpArgs false

set_option maxHeartbeats 1000000 in
set_option maxRecDepth 100000 in
theorem rstep_range (g : Nat) (k : Int) (w : World) (hk : inB k 0 2 = false) :
    Calls Tryd.prog 93 #[.pointer (some ⟨g, 0, none⟩), .int .i64 k] w fun e w' => e = .returned (.iface 132 (.int .i64 4)) ∧ w = w' := by
  have kT := isThread_is k
  rw [hk] at kT
  clear hk
  go_enter Tryd.func93, Tryd.ntmps93
  go_wp2_with fail
  refine (kT _).mono ?_
  rintro e w1 ⟨rfl, rfl⟩
  go_wp2
  go_ret
  exact ⟨rfl, rfl⟩

set_option maxHeartbeats 1000000 in
set_option maxRecDepth 100000 in
theorem rstep_done {fv : Value} {w : World} {g : Nat} {cs : Sl × Sl × Sl} {rows : List (List I3)} {m : V4} (h : Rp.MachAt fv w g cs rows m) {k : Nat} (hk : k < 3) (hd : doneM rows m k = true) :
    Calls Tryd.prog 93 #[.pointer (some ⟨g, 0, none⟩), .int .i64 k] w fun e w' => e = .returned (.iface 132 (.int .i64 10)) ∧ Below w.heap.size w w' := by
  have kT := isThread_is k
  have ht : inB (k : Int) 0 2 = true := inB_true.2 (by omega)
  have kD := Rp.doneT_is h hk
  rw [ht] at kT
  rw [hd] at kD
  have hk3 : (k : Int) < 3 := by omega
  clear hd ht h
  go_enter Tryd.func93, Tryd.ntmps93
  go_wp2_with fail
  refine (kT _).mono ?_
  rintro e w1 ⟨rfl, rfl⟩
  clear kT
  go_wp2_with fail
  refine kD.mono ?_
  rintro e w1 ⟨rfl, d, rfl⟩
  go_wp2
  go_ret
  exact ⟨rfl, below_dN _⟩

set_option maxHeartbeats 1000000 in
set_option maxRecDepth 100000 in
theorem rstep_waits {fv : Value} {w : World} {g : Nat} {cs : Sl × Sl × Sl} {rows : List (List I3)} {m : V4} (h : Rp.MachAt fv w g cs rows m) (hp : progOk rows = true) (hs : shapeOk m = true) {k : Nat} (hk : k < 3) (hd : doneM rows m k = false) (hw : waitM rows m k = true) :
    Calls Tryd.prog 93 #[.pointer (some ⟨g, 0, none⟩), .int .i64 k] w fun e w' => e = .returned (.iface 132 (.int .i64 11)) ∧ Below w.heap.size w w' := by
  have kT := isThread_is k
  have ht : inB (k : Int) 0 2 = true := inB_true.2 (by omega)
  have kD := Rp.doneT_is h hk
  have kW := fun W (hM : Rp.MachAt fv W g cs rows m) => Rp.waits_is hM hp hs hk
  rw [ht] at kT
  rw [hd] at kD
  rw [hw] at kW
  have hk3 : (k : Int) < 3 := by omega
  clear hd ht hw hp hs
  go_enter Tryd.func93, Tryd.ntmps93
  go_wp2_with fail
  refine (kT _).mono ?_
  rintro e w1 ⟨rfl, rfl⟩
  clear kT
  go_wp2_with fail
  refine kD.mono ?_
  rintro e w1 ⟨rfl, d, rfl⟩
  clear kD
  go_wp2_with fail
  refine (kW _ (h.below (below_dN _))).mono ?_
  rintro e w1 ⟨rfl, hb⟩
  have bz : Below w.heap.size w w1 := bel_trans (below_dN _) hb
  clear hb kW h
  go_wp2
  go_ret
  exact ⟨rfl, bz⟩

theorem bug_of_halt (v : Value) (w : World) : (Instr.typeAssert (.iface 132 v) 136 40 true).run Tryd.prog w = .ok (.tuple #[.agg #[.int .i64 0, .int .i64 0, .int .i64 0], .bool false]) w := by kernel_rfl
theorem bug_of_bug (v : Value) (w : World) : (Instr.typeAssert (.iface 40 v) 136 40 true).run Tryd.prog w = .ok (.tuple #[v, .bool true]) w := by kernel_rfl
theorem halt_of_halt (v : Value) (w : World) : (Instr.typeAssert (.iface 132 v) 20 132 false).run Tryd.prog w = .ok v w := by kernel_rfl

set_option maxHeartbeats 1000000 in
set_option maxRecDepth 100000 in
theorem keep_halt (g : Nat) (c : Int) (w : World) :
    Calls Tryd.prog 92 #[.pointer (some ⟨g, 0, none⟩), .iface 132 (.int .i64 c)] w fun e w' => e = .panicked [{ v := .iface 132 (.int .i64 c), recovered := false }] ∧ Below w.heap.size w w' := by
  have hA := bug_of_halt
  go_enter Tryd.func92, Tryd.ntmps92
  go_wp2
  exact ⟨rfl, rfl, by go_grown⟩

set_option maxHeartbeats 1000000 in
set_option maxRecDepth 100000 in
theorem keep_ok (g : Nat) (k pc : Int) (w : World) :
    Calls Tryd.prog 92 #[.pointer (some ⟨g, 0, none⟩), .iface 40 (.agg #[.int .i64 0, .int .i64 k, .int .i64 pc])] w fun e w' => e = .returned (.tuple #[]) ∧ Below w.heap.size w w' := by
  have hA := bug_of_bug
  go_enter Tryd.func92, Tryd.ntmps92
  go_wp2
  go_end0
  exact ⟨rfl, by go_grown⟩
end Go.Proofs.YtmhngodbnoonhaaDoor
