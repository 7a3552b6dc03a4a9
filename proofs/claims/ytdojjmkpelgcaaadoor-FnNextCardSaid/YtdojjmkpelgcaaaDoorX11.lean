/-
  Joined: MachI.
-/
import Derived.BigRegion
import Derived.Test.YtdojjmkpelgcaaaDoorX10

namespace Go.Proofs.YtdojjmkpelgcaaaDoor
set_option maxRecDepth 100000
open Go.RowKit

theorem below_dN {w : World} (n : Nat) : Below w.heap.size w (w.drewN n) := ⟨rfl, rfl, rfl, Nat.le_refl _, fun _ _ => rfl⟩

set_option maxHeartbeats 1000000 in
theorem done_is (g o : Nat) (a : Option Addr) (n c : Nat) (pc : Int) (w : World) (h0 : w.cell? ⟨g, o, none⟩ = some (.slice a n c)) (h1 : w.cell? ⟨g, o + 1, none⟩ = some (.int .i64 pc)) :
  Calls Tryd.prog 40 #[.pointer (some ⟨g, o, none⟩)] w fun e w' => e = .returned (.bool (decide ((n : Int) ≤ pc))) ∧ ∃ d, w' = w.drewN d := by
 obtain ⟨x, hx⟩ : ∃ x, x = decide ((n : Int) ≤ pc) := ⟨_, rfl⟩
 have hd : decide ((n : Int) ≤ pc) = x := hx.symm
 rw [← hx]
 clear hx
 go_enter Tryd.func40, Tryd.ntmps40
 go_wp2_with fail
 go_quiet (fail)
 go_wp2
 go_ret
 exact ⟨rfl, _, rfl⟩

def slK (cs : Sl × Sl × Sl) : Nat → Sl
 | 0 => cs.1
 | 1 => cs.2.1
 | _ => cs.2.2
def MachAt (w : World) (g : Nat) (cs : Sl × Sl × Sl) (rows : List (List I3)) (m : V4) : Prop :=
 Blk w g 76 (machCells cs.1.val cs.2.1.val cs.2.2.val m) ∧ ∀ k, k < 3 → Instrs w (slK cs k).1 (slK cs k).2.1 (slK cs k).2.2 (codeM rows k)
theorem MachAt.below {w w' : World} {g : Nat} {cs : Sl × Sl × Sl} {rows : List (List I3)} {m : V4} (h : MachAt w g cs rows m) (hb : Below w.heap.size w w') : MachAt w' g cs rows m := ⟨h.1.below hb, fun k hk => (h.2 k hk).below hb⟩
theorem codeV_sl (cs : Sl × Sl × Sl) {k : Nat} (hk : k < 3) : codeV cs.1.val cs.2.1.val cs.2.2.val k = (slK cs k).val := by
 match k, hk with
 | 0, _ => rfl
 | 1, _ => rfl
 | 2, _ => rfl
theorem MachAt.code {w : World} {g : Nat} {cs : Sl × Sl × Sl} {rows : List (List I3)} {m : V4} (h : MachAt w g cs rows m) {k : Nat} (hk : k < 3) : w.cell? ⟨g, k * 4, none⟩ = some (.slice (slK cs k).1 (slK cs k).2.1 (slK cs k).2.2) := by
 rw [h.1.cell, mc_code _ _ _ _ hk, codeV_sl cs hk]; rfl
theorem MachAt.pc {w : World} {g : Nat} {cs : Sl × Sl × Sl} {rows : List (List I3)} {m : V4} (h : MachAt w g cs rows m) {k : Nat} (hk : k < 3) : w.cell? ⟨g, k * 4 + 1, none⟩ = some (.int .i64 (m.1.getD k 0)) := by
 rw [h.1.cell, mc_pc _ _ _ _ hk]
theorem ins_at {w : World} {a : Option Addr} {n c : Nat} {xs : List I3} (h : Instrs w a n c xs) {p : Nat} (hp : p < xs.length) : ∃ b off, a = some ⟨b, off, none⟩ ∧ p < n ∧
  w.cell? ⟨b, off + p * 3, none⟩ = some (.int .i64 (xs.getD p (0, 0, 0)).1) ∧ w.cell? ⟨b, off + p * 3 + 1, none⟩ = some (.int .i64 (xs.getD p (0, 0, 0)).2.1) ∧ w.cell? ⟨b, off + p * 3 + 2, none⟩ = some (.int .i64 (xs.getD p (0, 0, 0)).2.2) := by
 obtain ⟨hl, _, _, _, h0 | ⟨b, off, ha, _, hc⟩⟩ := h
 ·omega
 ·exact ⟨b, off, ha, by omega, hc p (by omega)⟩
theorem codeM_len {rows : List (List I3)} (hp : progOk rows = true) {k : Nat} (hk : k < 3) : (codeM rows k).length ≤ 6 ∧ ∀ x ∈ codeM rows k, okI x = true := by
 obtain ⟨h3, hr⟩ := progOk_parts hp
 exact hr _ (by unfold codeM; simp [List.getD, show k < rows.length by omega])
theorem at_ins {rows : List (List I3)} {m : V4} (hp : progOk rows = true) (hs : shapeOk m = true) {k : Nat} (hk : k < 3) (hd : doneM rows m k = false) : ∃ p : Nat, m.1.getD k 0 = p ∧ p < (codeM rows k).length ∧ insM rows m k = (codeM rows k).getD p (0, 0, 0) ∧ okI (insM rows m k) = true := by
 have hb := getD_in (shape_bounds hs).1 (by decide) k
 unfold doneM at hd
 simp only [decide_eq_false_iff_not] at hd
 have e : m.1.getD k 0 = ((m.1.getD k 0).toNat : Int) := by omega
 refine ⟨(m.1.getD k 0).toNat, e, by omega, rfl, ?_⟩
 refine (codeM_len hp hk).2 _ ?_
 unfold insM
 have hlt : (m.1.getD k 0).toNat < (codeM rows k).length := by omega
 rw [List.getD, List.getElem?_eq_getElem hlt, Option.getD_some]
 exact List.getElem_mem hlt
theorem okI_lock {x : I3} (h : okI x = true) (h5 : x.1 = 5) : ∃ q : Nat, x.2.1 = q ∧ q < 2 := by
 unfold okI at h
 simp only [h5] at h
 have h2 : inB x.2.1 0 1 = true := by
  have := h
  simp at this
  exact this.1
 rw [inB_true] at h2
 exact ⟨x.2.1.toNat, by omega, by omega⟩

theorem doneT_is {w : World} {g : Nat} {cs : Sl × Sl × Sl} {rows : List (List I3)} {m : V4} (h : MachAt w g cs rows m) {k : Nat} (hk : k < 3) :
  Calls Tryd.prog 40 #[.pointer (some ⟨g, k * 4, none⟩)] w fun e w' => e = .returned (.bool (doneM rows m k)) ∧ ∃ d, w' = w.drewN d := by
 have hl := (h.2 k hk).1
 have := done_is g (k * 4) _ _ _ _ w (h.code hk) (h.pc hk)
 unfold doneM
 rw [hl]
 exact this

end Go.Proofs.YtdojjmkpelgcaaaDoor
