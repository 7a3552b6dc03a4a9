/-
  Joined: VmDraw, EvA, RyI, RpA.
-/
import Derived.Test.YtdojjmkpelgcaaaGreatDoorProg
import Derived.Deep.RegionHeld3
import Derived.KernelRfl
import Derived.Tactics
import Derived.WalkKit
import Derived.WalkSpells
import Derived.WalkLawsBesides
import Derived.RegionTactic
import Derived.BigQuiet
import Derived.Deep.QuietTactic
import Derived.Deep.Slices
import Derived.Deep.Strs
import Derived.Deep.Fields
import Derived.ChangeSame
import Derived.ChangeSlices
import Derived.Lib.SmallJoins
import Derived.Handy
import Derived.OwnWalk
import Derived.Shelf.Abstract
import Derived.Laws.BytesArg
import Derived.Deep.RegionLaw
import Derived.Laws.OwnMore
import Derived.Laws.CopyOwn
import Derived.Laws.Tables
import Derived.BigRegion
import Derived.Maps.AppendAt
import Derived.Laws.RangeString
import Derived.Laws.RangeAny
import Derived.Laws.Bits
import Derived.Lib.FieldsP
import Derived.Stop.Asserts
import Derived.Test.YtdojjmkpelgcaaaGreatDoorK01
import Derived.Test.YtdojjmkpelgcaaaGreatDoorK02
import Derived.Test.YtdojjmkpelgcaaaGreatDoorK03
import Derived.Test.YtdojjmkpelgcaaaGreatDoorK04
import Derived.Test.YtdojjmkpelgcaaaGreatDoorK07
import Derived.Test.YtdojjmkpelgcaaaGreatDoorK08
import Derived.Test.YtdojjmkpelgcaaaGreatDoorK09
import Derived.Test.YtdojjmkpelgcaaaGreatDoorK10
import Derived.Test.YtdojjmkpelgcaaaGreatDoorK11
import Derived.Test.YtdojjmkpelgcaaaGreatDoorK12
import Derived.Test.YtdojjmkpelgcaaaGreatDoorK13
import Derived.Test.YtdojjmkpelgcaaaGreatDoorK15
import Derived.Test.YtdojjmkpelgcaaaGreatDoorK23
import Derived.Test.YtdojjmkpelgcaaaGreatDoorK26
import Derived.Test.YtdojjmkpelgcaaaGreatDoorK28
import Derived.Test.YtdojjmkpelgcaaaGreatDoorK30
import Derived.Test.YtdojjmkpelgcaaaGreatDoorK31
import Derived.Test.YtdojjmkpelgcaaaGreatDoorK32

/-
  The specification's drawn state: a state that a program comes to, in memory of its own; it has its shape.
-/
namespace Go.Proofs.YtdojjmkpelgcaaaGreatDoor
open Go.RowKit
set_option linter.unusedVariables false
set_option linter.unusedSimpArgs false

theorem Went.of_below {p : Nat} {w w' : World} (h : Below w.heap.size w w') : Went p w w' := ⟨h.os, h.tape, h.output, h.size, fun k hk _ => h.block k hk⟩
theorem Blk.went {p g t : Nat} {w w' : World} {cs : List Value} (h : Blk w g t cs) (hw : Went p w w') (hne : g ≠ p) : Blk w' g t cs := h.kept hw (fun e => hne (by cases e; rfl))
theorem OwnV.went {p B : Nat} {w w' : World} {s : S4} {m : V4} (h : OwnV w B s m) (hw : Went p w w') (hp : p < B) : OwnV w' B s m := ⟨⟨owns_wn h.1.1 hw hp, owns_wn h.1.2.1 hw hp, owns_wn h.1.2.2.1 hw hp, owns_wn h.1.2.2.2 hw hp⟩, h.2⟩
theorem OwnI.went {p B : Nat} {w w' : World} {s : Sl} {zs : List Int} (h : OwnI w B s zs) (hw : Went p w w') (hp : p < B) : OwnI w' B s zs := owns_wn h hw hp
theorem OwnV.lowerB {B B' : Nat} {w : World} {s : S4} {m : V4} (h : OwnV w B s m) (hB : B' ≤ B) : OwnV w B' s m := ⟨⟨own_lower h.1.1 hB, own_lower h.1.2.1 hB, own_lower h.1.2.2.1 hB, own_lower h.1.2.2.2 hB⟩, h.2⟩
theorem Src.belowD {p T : Nat} {c : Value} {w w' : World} (h : Src w p c T) (hb : Below w.heap.size w w') : Src w' p c T := h.grown (row := none) ⟨hb.os, hb.tape, hb.output, hb.size, fun k hk _ => hb.block k hk⟩ (fun k e => by cases e)
theorem zero_shape : shapeOk zeroV = true := by decide
def vmC (t : S4) : List Value := [.slice t.1.1 t.1.2.1 t.1.2.2, .slice t.2.1.1 t.2.1.2.1 t.2.1.2.2, .slice t.2.2.1.1 t.2.2.1.2.1 t.2.2.1.2.2, .slice t.2.2.2.1 t.2.2.2.2.1 t.2.2.2.2.2]
theorem step_store_blkD {P : Program} {ops : Array Oper} {o : Oper} {a : Act} {w : World} {K : Act → World → Prop} {Q : Exit → Act → World → Prop} {E : Prop} (hgd : o.guard = none) (ty : TypeId) (x y : Operand) (ho : o.op = .store ty x y) (g : Nat) (vs : List Value) (hx : a.eval x = .pointer (some ⟨g, 0, none⟩)) (hy : a.eval y = .agg vs.toArray) {t : Nat} {cs : List Value} (hB : Blk w g t cs)
    (hi : (P.info? ty).map (·.size) = some vs.length) (hl : cs.length = vs.length) (h1 : vs.all (·.oneCell') = true)
    (h : ∀ w', Hid (Blk w' g t vs) → w.grownBy w' (some g) → K (a.put o.dst undef) w') : if Region.wanted o (yielded ops a.tmps) = true then Oper.wp P o a w K Q else E := by
  have hw : Region.wanted o (yielded ops a.tmps) = true := by simp [Region.wanted, hgd]
  rw [if_pos hw]
  exact wp_store_row ty x y ho g vs.toArray hx hy t cs.toArray hB (by simpa using hi) (by simpa using hl) (by simpa using h1) (h _ (blk_setRow vs hB) (grown_setRow _ _ _))
end Go.Proofs.YtdojjmkpelgcaaaGreatDoor



/-
  What an instruction touches; an event of the program's machine.
-/
namespace Go.Proofs.YtdojjmkpelgcaaaGreatDoor
open Go.RowKit
set_option linter.unusedVariables false
set_option linter.unusedSimpArgs false

def objM (x : I3) : Int := if x.1 = 1 then x.2.2 else if x.1 = 2 then x.2.1 else if x.1 = 5 ∨ x.1 = 6 then 4 + x.2.1 else -1
def eventM (rows : List (List I3)) (m : V4) (k : Nat) : Int × Int × Int × Int := (k, m.1.getD k 0, (insM rows m k).1, objM (insM rows m k))

set_option maxHeartbeats 1000000 in
set_option maxRecDepth 100000 in
theorem objOf_is (x0 x1 x2 : Int) (hx : -1000 ≤ x1 ∧ x1 ≤ 1000) (w : World) : Calls Tryz.prog 108 #[.agg #[.int .i64 x0, .int .i64 x1, .int .i64 x2]] w fun e w' => e = .returned (.int .i64 (objM (x0, x1, x2))) ∧ Below w.heap.size w w' := by
  obtain ⟨r, hr⟩ : ∃ r, r = objM (x0, x1, x2) := ⟨_, rfl⟩
  rw [← hr]
  unfold objM at hr
  simp only at hr
  have HR : Hid (r = if x0 = 1 then x2 else if x0 = 2 then x1 else if x0 = 5 ∨ x0 = 6 then 4 + x1 else -1) := hr
  clear hr
  have h4 : IntKind.i64.wrap (4 + x1) = 4 + x1 := IntWalk.i64_in _ (by omega)
  by_cases q1 : x0 = 1
  · have HF : Hid (r = x2) := by rw [Hid, HR.out]; simp [q1]
    subst q1
    clear HR 
    go_enter Tryz.func108, Tryz.ntmps108
    go_wp2
    go_ret
    exact ⟨by rw [HF.out]; rfl, by go_grown⟩
  by_cases q2 : x0 = 2
  · have HF : Hid (r = x1) := by rw [Hid, HR.out]; simp [q2]
    subst q2
    clear HR q1
    go_enter Tryz.func108, Tryz.ntmps108
    go_wp2
    go_ret
    exact ⟨by rw [HF.out]; rfl, by go_grown⟩
  by_cases q5 : x0 = 5
  · have HF : Hid (r = 4 + x1) := by rw [Hid, HR.out]; simp [q5]
    subst q5
    clear HR q1 q2
    go_enter Tryz.func108, Tryz.ntmps108
    go_wp2
    go_ret
    exact ⟨by rw [HF.out]; rfl, by go_grown⟩
  by_cases q6 : x0 = 6
  · have HF : Hid (r = 4 + x1) := by rw [Hid, HR.out]; simp [q6]
    subst q6
    clear HR q1 q2 q5
    go_enter Tryz.func108, Tryz.ntmps108
    go_wp2
    go_ret
    exact ⟨by rw [HF.out]; rfl, by go_grown⟩
  have HF : Hid (r = -1) := by rw [Hid, HR.out, if_neg q1, if_neg q2, if_neg (by omega)]
  have r1 : (x0 == 1) = false := by simp [q1]
  have r2 : (x0 == 2) = false := by simp [q2]
  have r5 : (x0 == 5) = false := by simp [q5]
  have r6 : (x0 == 6) = false := by simp [q6]
  clear HR q1 q2 q5 q6
  go_enter Tryz.func108, Tryz.ntmps108
  go_wp2
  go_ret
  exact ⟨by rw [HF.out]; rfl, by go_grown⟩

set_option maxHeartbeats 1000000 in
set_option maxRecDepth 100000 in
theorem l05Obj_is (x0 x1 x2 : Int) (hx : -1000 ≤ x1 ∧ x1 ≤ 1000) (w : World) : Calls Tryz.prog 152 #[.agg #[.int .i64 x0, .int .i64 x1, .int .i64 x2]] w fun e w' => e = .returned (.int .i64 (objM (x0, x1, x2))) ∧ Below w.heap.size w w' := by
  obtain ⟨r, hr⟩ : ∃ r, r = objM (x0, x1, x2) := ⟨_, rfl⟩
  rw [← hr]
  unfold objM at hr
  simp only at hr
  have HR : Hid (r = if x0 = 1 then x2 else if x0 = 2 then x1 else if x0 = 5 ∨ x0 = 6 then 4 + x1 else -1) := hr
  clear hr
  have h4 : IntKind.i64.wrap (4 + x1) = 4 + x1 := IntWalk.i64_in _ (by omega)
  by_cases q1 : x0 = 1
  · have HF : Hid (r = x2) := by rw [Hid, HR.out]; simp [q1]
    subst q1
    clear HR 
    go_enter Tryz.func152, Tryz.ntmps152
    go_wp2
    go_ret
    exact ⟨by rw [HF.out]; rfl, by go_grown⟩
  by_cases q2 : x0 = 2
  · have HF : Hid (r = x1) := by rw [Hid, HR.out]; simp [q2]
    subst q2
    clear HR q1
    go_enter Tryz.func152, Tryz.ntmps152
    go_wp2
    go_ret
    exact ⟨by rw [HF.out]; rfl, by go_grown⟩
  by_cases q5 : x0 = 5
  · have HF : Hid (r = 4 + x1) := by rw [Hid, HR.out]; simp [q5]
    subst q5
    clear HR q1 q2
    go_enter Tryz.func152, Tryz.ntmps152
    go_wp2
    go_ret
    exact ⟨by rw [HF.out]; rfl, by go_grown⟩
  by_cases q6 : x0 = 6
  · have HF : Hid (r = 4 + x1) := by rw [Hid, HR.out]; simp [q6]
    subst q6
    clear HR q1 q2 q5
    go_enter Tryz.func152, Tryz.ntmps152
    go_wp2
    go_ret
    exact ⟨by rw [HF.out]; rfl, by go_grown⟩
  have HF : Hid (r = -1) := by rw [Hid, HR.out, if_neg q1, if_neg q2, if_neg (by omega)]
  have r1 : (x0 == 1) = false := by simp [q1]
  have r2 : (x0 == 2) = false := by simp [q2]
  have r5 : (x0 == 5) = false := by simp [q5]
  have r6 : (x0 == 6) = false := by simp [q6]
  clear HR q1 q2 q5 q6
  go_enter Tryz.func152, Tryz.ntmps152
  go_wp2
  go_ret
  exact ⟨by rw [HF.out]; rfl, by go_grown⟩

set_option maxHeartbeats 1600000 in
set_option maxRecDepth 100000 in
theorem event_raw (g k p b off n c : Nat) (x0 x1 x2 : Int) (w : World) (hk : k < 3) (hp : p < n) (hp6 : p ≤ 6) (hx : -1000 ≤ x1 ∧ x1 ≤ 1000)
    (e0 : w.cell? ⟨g, k * 4, none⟩ = some (.slice (some ⟨b, off, none⟩) n c)) (e1 : w.cell? ⟨g, k * 4 + 1, none⟩ = some (.int .i64 p)) (q0 : w.cell? ⟨b, off + p * 3, none⟩ = some (.int .i64 x0)) (q1 : w.cell? ⟨b, off + p * 3 + 1, none⟩ = some (.int .i64 x1)) (q2 : w.cell? ⟨b, off + p * 3 + 2, none⟩ = some (.int .i64 x2)) :
    Calls Tryz.prog 53 #[.pointer (some ⟨g, 0, none⟩), .int .i64 k] w fun e w' => e = .returned (.agg #[.int .i64 k, .int .i64 p, .int .i64 x0, .int .i64 (objM (x0, x1, x2))]) ∧ Below w.heap.size w w' := by
  have hgl : g < w.heap.size := World.block_lt_of_cell? _ _ e1
  have hk3 : (k : Int) < 3 := by omega
  have hpn : (p : Int) < (n : Int) := by omega
  have kO := objOf_is x0 x1 x2 hx
  generalize objM (x0, x1, x2) = ob at *
  have bw : Below w.heap.size w (w.alloc (.cells #[.int .i64 0, .int .i64 0, .int .i64 0, .int .i64 0] 38)) := by go_grown
  have pR : Blk (w.alloc (.cells #[.int .i64 0, .int .i64 0, .int .i64 0, .int .i64 0] 38)) w.heap.size 38 [.int .i64 0, .int .i64 0, .int .i64 0, .int .i64 0] := blkAt _ _ _ rfl
  replace e0 := cells_kept bw _ _ e0
  replace e1 := cells_kept bw _ _ e1
  replace q0 := cells_kept bw _ _ q0
  replace q1 := cells_kept bw _ _ q1
  replace q2 := cells_kept bw _ _ q2
  go_enter Tryz.func53, Tryz.ntmps53
  go_wp2_with fail
  have hX9 : w.heap.size < (w.alloc (.cells #[.int .i64 0, .int .i64 0, .int .i64 0, .int .i64 0] 38)).heap.size := pR.lt
  generalize (w.alloc (.cells #[.int .i64 0, .int .i64 0, .int .i64 0, .int .i64 0] 38)) = W at *
  refine wp_region_held_drew (S := (fun w' => w'.cell? ⟨g, k * 4, none⟩ = some (.slice (some ⟨b, off, none⟩) n c) ∧ w'.cell? ⟨g, k * 4 + 1, none⟩ = some (.int .i64 p) ∧ w'.cell? ⟨b, off + p * 3, none⟩ = some (.int .i64 x0) ∧ w'.cell? ⟨b, off + p * 3 + 1, none⟩ = some (.int .i64 x1) ∧ w'.cell? ⟨b, off + p * 3 + 2, none⟩ = some (.int .i64 x2))) (by kernel_rfl) ⟨e0, e1, q0, q1, q2⟩ (fun hS0 => ?_)
  refine tkm 0 12 (.pointer (some ⟨g, k * 4, none⟩)) ?_
  refine tkm 1 13 (.pointer (some ⟨g, k * 4, none⟩)) ?_
  refine tkm 2 14 (.pointer (some ⟨g, k * 4, none⟩)) ?_
  refine tkm 3 15 (.slice (some ⟨b, off, none⟩) n c) ?_
  refine tkm 4 16 (.pointer (some ⟨g, k * 4, none⟩)) ?_
  refine tkm 5 17 (.pointer (some ⟨g, k * 4, none⟩)) ?_
  refine tkm 6 18 (.pointer (some ⟨g, k * 4 + 1, none⟩)) ?_
  refine tkm 7 19 (.int .i64 p) ?_
  refine tkm 8 20 (.pointer (some ⟨b, off + p * 3, none⟩)) ?_
  refine tkm 9 21 (.agg #[.int .i64 x0, .int .i64 x1, .int .i64 x2]) ?_
  refine tkr 10 6 (fun K hK => ?_)
  have hal : Below W.drew.heap.size W.drew (W.drew.alloc (.cells #[.int .i64 0, .int .i64 0, .int .i64 0] 158)) := by go_grown
  go_simp
  refine hK.out _ _ ?_ (fun hS1 => ?_)
  · exact ⟨cells_kept hal _ _ hS0.1, cells_kept hal _ _ hS0.2.1, cells_kept hal _ _ hS0.2.2.1, cells_kept hal _ _ hS0.2.2.2.1, cells_kept hal _ _ hS0.2.2.2.2⟩
  clear hK
  try simp only [Act.put, tka, tkb, tkc]
  refine tkz 11 (fun K hK => ?_)
  have hal2 : Below W.drew.heap.size W.drew (W.drew.alloc (.cells #[.int .i64 x0, .int .i64 x1, .int .i64 x2] 158)) := by go_grown
  go_simp
  refine hK.out _ _ ?_ (fun hS2 => ?_)
  · exact ⟨cells_kept hal2 _ _ hS0.1, cells_kept hal2 _ _ hS0.2.1, cells_kept hal2 _ _ hS0.2.2.1, cells_kept hal2 _ _ hS0.2.2.2.1, cells_kept hal2 _ _ hS0.2.2.2.2⟩
  clear hK
  try simp only [Act.put, tka, tkb, tkc]
  refine wpAnyH_done (by kernel_rfl) ?_ _
  have hb : Below W.heap.size W (W.alloc (.cells #[.int .i64 x0, .int .i64 x1, .int .i64 x2] 158)).drew := by go_grown
  have pX : Blk (W.alloc (.cells #[.int .i64 x0, .int .i64 x1, .int .i64 x2] 158)).drew W.heap.size 158 [.int .i64 x0, .int .i64 x1, .int .i64 x2] := blkAt _ _ _ rfl
  replace bw := bel_trans bw hb
  replace pR := pR.below hb
  replace e1 := cells_kept hb _ _ e1
  skip
  clear hal hal2 hS0 hS1 hS2 e0 q0 q1 q2 hb
  go_wp2_with fail
  generalize (W.alloc (.cells #[.int .i64 x0, .int .i64 x1, .int .i64 x2] 158)).drew = V at *
  generalize W.heap.size = X at *
  have c0 := pX.cell 0
  have c1 := pX.cell 1
  have c2 := pX.cell 2
  simp only [List.getElem?_cons_zero, List.getElem?_cons_succ] at c0 c1 c2
  have hdr : Below V.heap.size V V.drew := by go_grown
  refine wp_region_held_drew (S := (fun w' => w'.cell? ⟨g, k * 4 + 1, none⟩ = some (.int .i64 p) ∧ w'.cell? ⟨X, 0, none⟩ = some (.int .i64 x0) ∧ w'.cell? ⟨X, 1, none⟩ = some (.int .i64 x1) ∧ w'.cell? ⟨X, 2, none⟩ = some (.int .i64 x2))) (by kernel_rfl) ⟨e1, c0, c1, c2⟩ (fun hS0 => ?_)
  refine tkm 0 22 (.int .i64 (k : Int)) ?_
  refine tkm 1 23 (.pointer (some ⟨g, k * 4, none⟩)) ?_
  refine tkm 2 24 (.pointer (some ⟨g, k * 4, none⟩)) ?_
  refine tkm 3 25 (.pointer (some ⟨g, k * 4 + 1, none⟩)) ?_
  refine tkm 4 26 (.int .i64 p) ?_
  refine tkm 5 27 (.pointer (some ⟨X, 0, none⟩)) ?_
  refine tkm 6 28 (.int .i64 x0) ?_
  refine tkm 7 29 (.agg #[.int .i64 x0, .int .i64 x1, .int .i64 x2]) ?_
  refine tkr 8 30 (fun K hK => ?_)
  go_simp
  refine (kO _).mono ?_
  rintro e U ⟨rfl, hb8⟩
  go_wp2_with fail
  refine hK.out _ _ ?_ (fun hS1 => ?_)
  · exact ⟨cells_kept hb8 _ _ hS0.1, cells_kept hb8 _ _ hS0.2.1, cells_kept hb8 _ _ hS0.2.2.1, cells_kept hb8 _ _ hS0.2.2.2⟩
  clear hK
  refine tkm 9 31 (.agg #[.int .i64 (k : Int), .int .i64 p, .int .i64 x0, .int .i64 ob]) ?_
  replace pR := pR.below (bel_trans hdr hb8)
  replace bw := bel_trans bw (bel_trans hdr hb8)
  refine tkz 10 (fun K hK => ?_)
  refine step_store_blkD rfl 38 _ _ rfl w.heap.size [.int .i64 (k : Int), .int .i64 p, .int .i64 x0, .int .i64 ob] rfl rfl pR (by kernel_rfl) rfl rfl ?_
  intro U2 pR2 g2
  have bz := bw.grown g2 bw.size (fun j hj => by cases hj; omega)
  have n1 : (some g : Option Nat) ≠ some w.heap.size := by simp; omega
  have n2 : (some X : Option Nat) ≠ some w.heap.size := by simp; omega
  refine hK.out _ _ ⟨cell_grownB g2 hS1.1 n1, cell_grownB g2 hS1.2.1 n2, cell_grownB g2 hS1.2.2.1 n2, cell_grownB g2 hS1.2.2.2 n2⟩ (fun hS2 => ?_)
  clear hK
  try simp only [Act.put, tka, tkb, tkc]
  refine wpAnyH_done (by kernel_rfl) ?_ _
  clear hS0 hS1 hS2 n1 n2 g2 bw pR hdr hb8 kO c0 c1 c2 e1 pX
  go_wp2_with fail
  refine bodyPost_ret (results_blk1 Tryz.results53 _ _ _ _ _ _ rfl pR2.out Tryz.underlying38 rfl (by kernel_rfl)) rfl ?_
  exact ⟨rfl, bz⟩

theorem okI_mid {x : I3} (h : okI x = true) : -1000 ≤ x.2.1 ∧ x.2.1 ≤ 1000 := by
  rcases okI_parts h with ⟨a, q, rfl, ha, hq⟩ | ⟨q, a, rfl, hq, ha⟩ | ⟨a, z, rfl, ha⟩ | ⟨a, z, rfl, ha, hz⟩ | ⟨a, z, rfl, ha⟩ | ⟨a, z, rfl, ha⟩ | ⟨a, z, rfl, ha, hz⟩ | ⟨a, z, rfl, ha⟩ <;> (simp only; omega)
theorem event_is {w : World} {g : Nat} {cs : Sl × Sl × Sl} {rows : List (List I3)} {m : V4} (h : MachAt w g cs rows m) (hp : progOk rows = true) (hs : shapeOk m = true) {k : Nat} (hk : k < 3) (hd : doneM rows m k = false) :
    Calls Tryz.prog 53 #[.pointer (some ⟨g, 0, none⟩), .int .i64 k] w fun e w' => e = .returned (.agg #[.int .i64 (eventM rows m k).1, .int .i64 (eventM rows m k).2.1, .int .i64 (eventM rows m k).2.2.1, .int .i64 (eventM rows m k).2.2.2]) ∧ Below w.heap.size w w' := by
  obtain ⟨p, ep, hlt, hi, hok⟩ := at_ins hp hs hk hd
  have hl6 := (codeM_len hp hk).1
  have e0 := h.code hk
  have e1 := h.pc hk
  rw [ep] at e1
  obtain ⟨b, off, ea, hpn, q0, q1, q2⟩ := ins_at (h.2 k hk) hlt
  rw [← hi] at q0 q1 q2
  rw [ea] at e0
  have hm := okI_mid hok
  unfold eventM
  rw [ep]
  generalize insM rows m k = x at *
  obtain ⟨x0, x1, x2⟩ := x
  exact event_raw g k p b off _ _ x0 x1 x2 w hk hpn (by omega) hm e0 e1 q0 q1 q2

end Go.Proofs.YtdojjmkpelgcaaaGreatDoor


/-
  A replay in memory: its machine's cells, and behind them what it found.
-/
namespace Go.Proofs.YtdojjmkpelgcaaaGreatDoor
namespace Rp
open Go.RowKit
set_option linter.unusedVariables false
set_option linter.unusedSimpArgs false
variable {fv : Value}

def machR (fv c0 c1 c2 : Value) (m : V4) : List Value :=
  [c0, .int .i64 (m.1.getD 0 0), .int .i64 (m.2.2.2.getD 0 0), .int .i64 (m.2.2.2.getD 1 0),
   c1, .int .i64 (m.1.getD 1 0), .int .i64 (m.2.2.2.getD 2 0), .int .i64 (m.2.2.2.getD 3 0),
   c2, .int .i64 (m.1.getD 2 0), .int .i64 (m.2.2.2.getD 4 0), .int .i64 (m.2.2.2.getD 5 0),
   .int .i64 (m.2.1.getD 0 0), .int .i64 (m.2.1.getD 1 0), .int .i64 (m.2.1.getD 2 0), .int .i64 (m.2.1.getD 3 0),
   .int .i64 (m.2.2.1.getD 0 0), .int .i64 (m.2.2.1.getD 1 0), fv]
theorem machR_found (fv c0 c1 c2 : Value) (m : V4) : (machR fv c0 c1 c2 m)[18]? = some fv := rfl
theorem machR_set (fv fv' c0 c1 c2 : Value) (m : V4) : (machR fv c0 c1 c2 m).set 18 fv' = machR fv' c0 c1 c2 m := rfl
section
variable (c0 c1 c2 : Value) (m : V4)
theorem mc_code {k : Nat} (hk : k < 3) : (machR fv c0 c1 c2 m)[k * 4]? = some (codeV c0 c1 c2 k) := by
  match k, hk with
  | 0, _ => rfl
  | 1, _ => rfl
  | 2, _ => rfl
theorem mc_pc {k : Nat} (hk : k < 3) : (machR fv c0 c1 c2 m)[k * 4 + 1]? = some (.int .i64 (m.1.getD k 0)) := by
  match k, hk with
  | 0, _ => rfl
  | 1, _ => rfl
  | 2, _ => rfl
theorem mc_reg {k a : Nat} (hk : k < 3) (ha : a < 2) : (machR fv c0 c1 c2 m)[k * 4 + 2 + a]? = some (.int .i64 (m.2.2.2.getD (k * 2 + a) 0)) := by
  match k, hk, a, ha with
  | 0, _, 0, _ => rfl
  | 1, _, 0, _ => rfl
  | 2, _, 0, _ => rfl
  | 0, _, 1, _ => rfl
  | 1, _, 1, _ => rfl
  | 2, _, 1, _ => rfl
theorem mc_var {a : Nat} (ha : a < 4) : (machR fv c0 c1 c2 m)[12 + a]? = some (.int .i64 (m.2.1.getD a 0)) := by
  match a, ha with
  | 0, _ => rfl
  | 1, _ => rfl
  | 2, _ => rfl
  | 3, _ => rfl
theorem mc_held {a : Nat} (ha : a < 2) : (machR fv c0 c1 c2 m)[16 + a]? = some (.int .i64 (m.2.2.1.getD a 0)) := by
  match a, ha with
  | 0, _ => rfl
  | 1, _ => rfl
end
section
variable (c0 c1 c2 : Value) (m : V4) (h : LenOk m)
include h
theorem mt_pc {k : Nat} (hk : k < 3) (v : Int) : (machR fv c0 c1 c2 m).set (k * 4 + 1) (.int .i64 v) = machR fv c0 c1 c2 (m.1.set k v, m.2) := by
  obtain ⟨p0, p1, p2, v0, v1, v2, v3, h0, h1, x0, y0, x1, y1, x2, y2, rfl⟩ := h.lists
  match k, hk with
  | 0, _ => rfl
  | 1, _ => rfl
  | 2, _ => rfl
theorem mt_reg {k a : Nat} (hk : k < 3) (ha : a < 2) (v : Int) : (machR fv c0 c1 c2 m).set (k * 4 + 2 + a) (.int .i64 v) = machR fv c0 c1 c2 (m.1, m.2.1, m.2.2.1, m.2.2.2.set (k * 2 + a) v) := by
  obtain ⟨p0, p1, p2, v0, v1, v2, v3, h0, h1, x0, y0, x1, y1, x2, y2, rfl⟩ := h.lists
  match k, hk, a, ha with
  | 0, _, 0, _ => rfl
  | 1, _, 0, _ => rfl
  | 2, _, 0, _ => rfl
  | 0, _, 1, _ => rfl
  | 1, _, 1, _ => rfl
  | 2, _, 1, _ => rfl
theorem mt_var {a : Nat} (ha : a < 4) (v : Int) : (machR fv c0 c1 c2 m).set (12 + a) (.int .i64 v) = machR fv c0 c1 c2 (m.1, m.2.1.set a v, m.2.2.1, m.2.2.2) := by
  obtain ⟨p0, p1, p2, v0, v1, v2, v3, h0, h1, x0, y0, x1, y1, x2, y2, rfl⟩ := h.lists
  match a, ha with
  | 0, _ => rfl
  | 1, _ => rfl
  | 2, _ => rfl
  | 3, _ => rfl
theorem mt_held {a : Nat} (ha : a < 2) (v : Int) : (machR fv c0 c1 c2 m).set (16 + a) (.int .i64 v) = machR fv c0 c1 c2 (m.1, m.2.1, m.2.2.1.set a v, m.2.2.2) := by
  obtain ⟨p0, p1, p2, v0, v1, v2, v3, h0, h1, x0, y0, x1, y1, x2, y2, rfl⟩ := h.lists
  match a, ha with
  | 0, _ => rfl
  | 1, _ => rfl
end
def MachAt (fv : Value) (w : World) (g : Nat) (cs : Sl × Sl × Sl) (rows : List (List I3)) (m : V4) : Prop :=
  Blk w g 96 (machR fv cs.1.val cs.2.1.val cs.2.2.val m) ∧ ∀ k, k < 3 → Instrs w (slK cs k).1 (slK cs k).2.1 (slK cs k).2.2 (codeM rows k)
theorem MachAt.below {w w' : World} {g : Nat} {cs : Sl × Sl × Sl} {rows : List (List I3)} {m : V4} (h : MachAt fv w g cs rows m) (hb : Below w.heap.size w w') : MachAt fv w' g cs rows m := ⟨h.1.below hb, fun k hk => (h.2 k hk).below hb⟩
theorem MachAt.code {w : World} {g : Nat} {cs : Sl × Sl × Sl} {rows : List (List I3)} {m : V4} (h : MachAt fv w g cs rows m) {k : Nat} (hk : k < 3) : w.cell? ⟨g, k * 4, none⟩ = some (.slice (slK cs k).1 (slK cs k).2.1 (slK cs k).2.2) := by
  rw [h.1.cell, mc_code _ _ _ _ hk, codeV_sl cs hk]; rfl
theorem MachAt.pc {w : World} {g : Nat} {cs : Sl × Sl × Sl} {rows : List (List I3)} {m : V4} (h : MachAt fv w g cs rows m) {k : Nat} (hk : k < 3) : w.cell? ⟨g, k * 4 + 1, none⟩ = some (.int .i64 (m.1.getD k 0)) := by
  rw [h.1.cell, mc_pc _ _ _ _ hk]
theorem MachAt.held {w : World} {g : Nat} {cs : Sl × Sl × Sl} {rows : List (List I3)} {m : V4} (h : MachAt fv w g cs rows m) {a : Nat} (ha : a < 2) : w.cell? ⟨g, 16 + a, none⟩ = some (.int .i64 (m.2.2.1.getD a 0)) := by
  rw [h.1.cell, mc_held _ _ _ _ ha]
theorem doneT_is {w : World} {g : Nat} {cs : Sl × Sl × Sl} {rows : List (List I3)} {m : V4} (h : MachAt fv w g cs rows m) {k : Nat} (hk : k < 3) :
    Calls Tryz.prog 71 #[.pointer (some ⟨g, k * 4, none⟩)] w fun e w' => e = .returned (.bool (doneM rows m k)) ∧ ∃ d, w' = w.drewN d := by
  have hl := (h.2 k hk).1
  have := done_is g (k * 4) _ _ _ _ w (h.code hk) (h.pc hk)
  unfold doneM
  rw [hl]
  exact this
theorem waits_is {w : World} {g : Nat} {cs : Sl × Sl × Sl} {rows : List (List I3)} {m : V4} (h : MachAt fv w g cs rows m) (hp : progOk rows = true) (hs : shapeOk m = true) {k : Nat} (hk : k < 3) :
    Calls Tryz.prog 72 #[.pointer (some ⟨g, 0, none⟩), .int .i64 k] w fun e w' => e = .returned (.bool (waitM rows m k)) ∧ Below w.heap.size w w' := by
  unfold waitM
  cases hd : doneM rows m k
  · obtain ⟨p, ep, hlt, hi, hok⟩ := at_ins hp hs hk hd
    have h0 := h.code hk
    have h1 := h.pc hk
    rw [ep] at h1
    obtain ⟨b, off, ea, hpn, c0, c1, c2⟩ := ins_at (h.2 k hk) hlt
    rw [← hi] at c0 c1 c2
    rw [ea] at h0
    by_cases h5 : (insM rows m k).1 = 5
    · obtain ⟨q, hq, hq2⟩ := okI_lock hok h5
      rw [h5] at c0
      rw [hq] at c1
      have hh := h.held hq2
      have e : atLock m (insM rows m k) = !decide (m.2.2.1.getD q 0 = 0) := by
        unfold atLock
        rw [h5, hq]
        simp
      rw [e]
      exact waits_lock g k p b off _ _ _ q _ w hk hpn h0 h1 c0 c1 c2 hh hq2 _ rfl
    · have e : atLock m (insM rows m k) = false := by unfold atLock; simp [h5]
      rw [e]
      exact waits_free g k p b off _ _ _ _ _ w hk hpn h0 h1 c0 c1 c2 h5
  · have h0 := h.code hk
    have h1 := h.pc hk
    unfold doneM at hd
    simp only [decide_eq_true_eq] at hd
    rw [(h.2 k hk).1] at hd
    exact waits_done g k _ _ _ _ w hk h0 h1 hd

end Rp
end Go.Proofs.YtdojjmkpelgcaaaGreatDoor


/-
  A replay's step that halts; what it keeps of an outcome.
-/
namespace Go.Proofs.YtdojjmkpelgcaaaGreatDoor
open Go.RowKit
set_option linter.unusedVariables false
set_option linter.unusedSimpArgs false

set_option maxHeartbeats 1000000 in
set_option maxRecDepth 100000 in
theorem rstep_range (g : Nat) (k : Int) (w : World) (hk : inB k 0 2 = false) :
    Calls Tryz.prog 107 #[.pointer (some ⟨g, 0, none⟩), .int .i64 k] w fun e w' => e = .returned (.iface 161 (.int .i64 4)) ∧ w = w' := by
  have kT := isThread_is k
  rw [hk] at kT
  clear hk
  go_enter Tryz.func107, Tryz.ntmps107
  go_wp2_with fail
  refine (kT _).mono ?_
  rintro e w1 ⟨rfl, rfl⟩
  go_wp2
  go_ret
  exact ⟨rfl, rfl⟩

set_option maxHeartbeats 1000000 in
set_option maxRecDepth 100000 in
theorem rstep_done {fv : Value} {w : World} {g : Nat} {cs : Sl × Sl × Sl} {rows : List (List I3)} {m : V4} (h : Rp.MachAt fv w g cs rows m) {k : Nat} (hk : k < 3) (hd : doneM rows m k = true) :
    Calls Tryz.prog 107 #[.pointer (some ⟨g, 0, none⟩), .int .i64 k] w fun e w' => e = .returned (.iface 161 (.int .i64 10)) ∧ Below w.heap.size w w' := by
  have kT := isThread_is k
  have ht : inB (k : Int) 0 2 = true := inB_true.2 (by omega)
  have kD := Rp.doneT_is h hk
  rw [ht] at kT
  rw [hd] at kD
  have hk3 : (k : Int) < 3 := by omega
  clear hd ht h
  go_enter Tryz.func107, Tryz.ntmps107
  go_wp2_with fail
  refine (kT _).mono ?_
  rintro e w1 ⟨rfl, rfl⟩
  clear kT
  go_wp2_with fail
  refine kD.mono ?_
  rintro e w1 ⟨rfl, d, rfl⟩
  go_wp2
  go_ret
  exact ⟨rfl, below_dN _⟩

set_option maxHeartbeats 1000000 in
set_option maxRecDepth 100000 in
theorem rstep_waits {fv : Value} {w : World} {g : Nat} {cs : Sl × Sl × Sl} {rows : List (List I3)} {m : V4} (h : Rp.MachAt fv w g cs rows m) (hp : progOk rows = true) (hs : shapeOk m = true) {k : Nat} (hk : k < 3) (hd : doneM rows m k = false) (hw : waitM rows m k = true) :
    Calls Tryz.prog 107 #[.pointer (some ⟨g, 0, none⟩), .int .i64 k] w fun e w' => e = .returned (.iface 161 (.int .i64 11)) ∧ Below w.heap.size w w' := by
  have kT := isThread_is k
  have ht : inB (k : Int) 0 2 = true := inB_true.2 (by omega)
  have kD := Rp.doneT_is h hk
  have kW := fun W (hM : Rp.MachAt fv W g cs rows m) => Rp.waits_is hM hp hs hk
  rw [ht] at kT
  rw [hd] at kD
  rw [hw] at kW
  have hk3 : (k : Int) < 3 := by omega
  clear hd ht hw hp hs
  go_enter Tryz.func107, Tryz.ntmps107
  go_wp2_with fail
  refine (kT _).mono ?_
  rintro e w1 ⟨rfl, rfl⟩
  clear kT
  go_wp2_with fail
  refine kD.mono ?_
  rintro e w1 ⟨rfl, d, rfl⟩
  clear kD
  go_wp2_with fail
  refine (kW _ (h.below (below_dN _))).mono ?_
  rintro e w1 ⟨rfl, hb⟩
  have bz : Below w.heap.size w w1 := bel_trans (below_dN _) hb
  clear hb kW h
  go_wp2
  go_ret
  exact ⟨rfl, bz⟩

theorem bug_of_halt (v : Value) (w : World) : (Instr.typeAssert (.iface 161 v) 165 64 true).run Tryz.prog w = .ok (.tuple #[.agg #[.int .i64 0, .int .i64 0, .int .i64 0], .bool false]) w := by kernel_rfl
theorem bug_of_bug (v : Value) (w : World) : (Instr.typeAssert (.iface 64 v) 165 64 true).run Tryz.prog w = .ok (.tuple #[v, .bool true]) w := by kernel_rfl
theorem halt_of_halt (v : Value) (w : World) : (Instr.typeAssert (.iface 161 v) 20 161 false).run Tryz.prog w = .ok v w := by kernel_rfl

set_option maxHeartbeats 1000000 in
set_option maxRecDepth 100000 in
theorem keep_halt (g : Nat) (c : Int) (w : World) :
    Calls Tryz.prog 106 #[.pointer (some ⟨g, 0, none⟩), .iface 161 (.int .i64 c)] w fun e w' => e = .panicked [{ v := .iface 161 (.int .i64 c), recovered := false }] ∧ Below w.heap.size w w' := by
  have hA := bug_of_halt
  go_enter Tryz.func106, Tryz.ntmps106
  go_wp2
  exact ⟨rfl, rfl, by go_grown⟩

set_option maxHeartbeats 1000000 in
set_option maxRecDepth 100000 in
theorem keep_ok (g : Nat) (k pc : Int) (w : World) :
    Calls Tryz.prog 106 #[.pointer (some ⟨g, 0, none⟩), .iface 64 (.agg #[.int .i64 0, .int .i64 k, .int .i64 pc])] w fun e w' => e = .returned (.tuple #[]) ∧ Below w.heap.size w w' := by
  have hA := bug_of_bug
  go_enter Tryz.func106, Tryz.ntmps106
  go_wp2
  go_end0
  exact ⟨rfl, by go_grown⟩
end Go.Proofs.YtdojjmkpelgcaaaGreatDoor

