/-
  Joined: TakM, RyI.
-/
import Derived.Test.YtifoggpohlegmaaGreatDoorS17

namespace Go.Proofs.YtifoggpohlegmaaGreatDoor
set_option maxRecDepth 100000
set_option maxHeartbeats 16000000
open Go.RowKit
set_option linter.unusedVariables false
set_option linter.unusedSimpArgs false

theorem grown_box {a b c:World} {r:Option Nat} {j:Nat} (h:a.grownBy b r) (k:b.grownBy c (some j)) (hj:a.heap.size≤j):a.grownBy c r:=
 ⟨k.os.trans h.os,k.tape.trans h.tape,k.output.trans h.output,Nat.le_trans h.size k.size,fun i hi hr=>(k.block i (Nat.lt_of_lt_of_le hi h.size) (by simp;omega)).trans (h.block i hi hr)⟩

theorem take_is {w:World} {g:Nat} {cs:Sl × Sl × Sl} {rows:List (List I3)} {m:V4} (h:MachAt w g cs rows m) (hp:progOk rows=true) (hs:shapeOk m=true) {k:Nat} (hk:k<3) (hd:doneM rows m k=false) :
  Calls Tryz.prog 93 #[.pointer (some ⟨g,0,none⟩),.int .i64 k] w fun e w'=>e=.returned (.agg #[.int .i64 (stepM m (insM rows m k) k).2,.int .i64 k,.int .i64 (m.1.getD k 0)])∧Blk w' g 89 (machCells cs.1.val cs.2.1.val cs.2.2.val (stepM m (insM rows m k) k).1)∧w.grownBy w' (some g):=by
 have kS:=fun W (hM:MachAt W g cs rows m)=>step_is hM hp hs hk hd
 generalize stepM m (insM rows m k) k=zf at *
 obtain ⟨z,f⟩:=zf
 simp only at kS ⊢
 have hk3:(k:Int)<3:=by omega
 obtain ⟨pc,hpc⟩:∃ pc,pc=m.1.getD k 0:=⟨_,rfl⟩
 rw [← hpc]
 have HPc:Hid (pc=m.1.getD k 0):=hpc
 clear hd hp hs hpc
 have hgl:=h.1.lt
 have pB:=Blk.new w 64 [.int .i64 0,.int .i64 0,.int .i64 0]
 have bz:Below w.heap.size w (w.alloc (.cells #[.int .i64 0,.int .i64 0,.int .i64 0] 64)):=by go_grown
 replace h:=h.below bz
 have r1:=h.pc hk
 rw [← HPc.out] at r1
 clear HPc
 have kSx:=kS _ h
 clear kS h
 go_enter Tryz.func93,Tryz.ntmps93
 go_wp2_with fail
 refine kSx.mono ?_
 rintro e w2 ⟨rfl,hM2,g2⟩
 have gz:w.grownBy w2 (some g):=grown_tr (grown_new bz) g2
 have pB2:=pB.kept g2 (by simp;omega)
 have hsz:=gz.size
 clear kSx g2 bz r1 pB
 obtain ⟨GB,hGB⟩:∃ GB,GB=w.heap.size:=⟨_,rfl⟩
 have hwj:w.heap.size≤GB:=by omega
 rw [← hGB] at pB2 hgl ⊢
 clear hGB hsz
 go_wp2_with (refine wpList_store_blk rfl 64 _ _ rfl GB [.int .i64 f,.int .i64 k,.int .i64 pc] rfl rfl pB2 (by kernel_rfl) rfl rfl ?_)
 intro W9 pR2 g3
 have hM3:=hM2.kept g3 (by simp;omega)
 go_wp2
 refine bodyPost_ret (results_blk1 Tryz.results93 _ _ _ _ _ _ rfl pR2.out Tryz.underlying64 rfl (by kernel_rfl)) rfl ?_
 exact ⟨rfl,hM3,grown_box gz g3 hwj⟩

namespace Rp
open Go.RowKit
set_option linter.unusedVariables false
set_option linter.unusedSimpArgs false
variable {fv : Value}

def machR (fv c0 c1 c2:Value) (m:V4):List Value:=
 [c0,.int .i64 (m.1.getD 0 0),.int .i64 (m.2.2.2.getD 0 0),.int .i64 (m.2.2.2.getD 1 0),
  c1,.int .i64 (m.1.getD 1 0),.int .i64 (m.2.2.2.getD 2 0),.int .i64 (m.2.2.2.getD 3 0),
  c2,.int .i64 (m.1.getD 2 0),.int .i64 (m.2.2.2.getD 4 0),.int .i64 (m.2.2.2.getD 5 0),
  .int .i64 (m.2.1.getD 0 0),.int .i64 (m.2.1.getD 1 0),.int .i64 (m.2.1.getD 2 0),.int .i64 (m.2.1.getD 3 0),
  .int .i64 (m.2.2.1.getD 0 0),.int .i64 (m.2.2.1.getD 1 0),fv]
section
variable (c0 c1 c2 : Value) (m : V4)
theorem mc_code {k:Nat} (hk:k<3):(machR fv c0 c1 c2 m)[k*4]?=some (codeV c0 c1 c2 k):=by
 match k,hk with
 | 0,_=>rfl
 | 1,_=>rfl
 | 2,_=>rfl
theorem mc_pc {k:Nat} (hk:k<3):(machR fv c0 c1 c2 m)[k*4+1]?=some (.int .i64 (m.1.getD k 0)):=by
 match k,hk with
 | 0,_=>rfl
 | 1,_=>rfl
 | 2,_=>rfl
theorem mc_held {a:Nat} (ha:a<2):(machR fv c0 c1 c2 m)[16+a]?=some (.int .i64 (m.2.2.1.getD a 0)):=by
 match a,ha with
 | 0,_=>rfl
 | 1,_=>rfl
end
section
variable (c0 c1 c2 : Value) (m : V4) (h : LenOk m)
include h
end
def MachAt (fv:Value) (w:World) (g:Nat) (cs:Sl × Sl × Sl) (rows:List (List I3)) (m:V4):Prop:=
 Blk w g 91 (machR fv cs.1.val cs.2.1.val cs.2.2.val m)∧∀ k,k<3→Instrs w (slK cs k).1 (slK cs k).2.1 (slK cs k).2.2 (codeM rows k)
theorem MachAt.below {w w':World} {g:Nat} {cs:Sl × Sl × Sl} {rows:List (List I3)} {m:V4} (h:MachAt fv w g cs rows m) (hb:Below w.heap.size w w'):MachAt fv w' g cs rows m:=⟨h.1.below hb,fun k hk=>(h.2 k hk).below hb⟩
theorem MachAt.code {w:World} {g:Nat} {cs:Sl × Sl × Sl} {rows:List (List I3)} {m:V4} (h:MachAt fv w g cs rows m) {k:Nat} (hk:k<3):w.cell? ⟨g,k*4,none⟩=some (.slice (slK cs k).1 (slK cs k).2.1 (slK cs k).2.2):=by
 rw [h.1.cell,mc_code _ _ _ _ hk,codeV_sl cs hk];rfl
theorem MachAt.pc {w:World} {g:Nat} {cs:Sl × Sl × Sl} {rows:List (List I3)} {m:V4} (h:MachAt fv w g cs rows m) {k:Nat} (hk:k<3):w.cell? ⟨g,k*4+1,none⟩=some (.int .i64 (m.1.getD k 0)):=by
 rw [h.1.cell,mc_pc _ _ _ _ hk]
theorem MachAt.held {w:World} {g:Nat} {cs:Sl × Sl × Sl} {rows:List (List I3)} {m:V4} (h:MachAt fv w g cs rows m) {a:Nat} (ha:a<2):w.cell? ⟨g,16+a,none⟩=some (.int .i64 (m.2.2.1.getD a 0)):=by
 rw [h.1.cell,mc_held _ _ _ _ ha]
end Rp
end Go.Proofs.YtifoggpohlegmaaGreatDoor
