/-
  Joined: RecR.
-/
import Derived.Test.YtdopgkbegjfhjaaGreatDoorL21
import Derived.Test.YtdopgkbegjfhjaaGreatDoorL23

namespace Go.Proofs.YtdopgkbegjfhjaaGreatDoor
set_option maxRecDepth 100000
set_option maxHeartbeats 16000000
open Go.RowKit
set_option linter.unusedVariables false
set_option linter.unusedSimpArgs false

open Classical in
noncomputable def recC (r:R2):ByteArray × Int:=if RecOk r then (frameOf (recT r),0) else (noT,1)
def ResT (r:ByteArray × Int):Ending:=.returned (.tuple #[.string r.1,.int .i64 r.2])
theorem recC_yes {r:R2} (h:RecOk r):recC r=(frameOf (recT r),0):=by unfold recC;rw [if_pos h]
theorem recC_no {r:R2} (h:¬ RecOk r):recC r=(noT,1):=by unfold recC;rw [if_neg h]
open Classical in
noncomputable def apR (d:D2) (r:R2):D2 × Int:=if d.1.size+d.2.size≤60000∧RecOk r then appD d (frameOf (recT r)) else (noD,1)
theorem apR_yes {d:D2} {r:R2} (h:d.1.size+d.2.size≤60000) (hr:RecOk r):apR d r=appD d (frameOf (recT r)):=by unfold apR;rw [if_pos ⟨h,hr⟩]
theorem apR_no {d:D2} {r:R2} (h:¬ (d.1.size+d.2.size≤60000∧RecOk r)):apR d r=(noD,1):=by unfold apR;rw [if_neg h]
theorem frame9_small {r:R2} (h:RecOk r):(frameOf (recT r)).size≤1007:=by
 have:=recT_small h
 have:=K9_le (recT r)
 rw [frame9_size]
 omega

def FrA (w w':World) (d:D2) (r:R2):Prop:=Blk w' w.heap.size 27 [.string d.1,.string d.2]∧Blk w' (w.heap.size+1) 24 [.int .i64 r.1,.string r.2]∧Blk w' (w.heap.size+2) 27 [.string ⟨#[]⟩,.string ⟨#[]⟩]∧Below w.heap.size w w'
theorem size_al (w:World) (o:Obj):(w.alloc o).heap.size=w.heap.size+1:=by
 show (w.heap.push _).size=_
 simp
theorem FrA.new (w:World) (d:D2) (r:R2):FrA w (((w.alloc (.cells #[.string d.1,.string d.2] 27)).alloc (.cells #[.int .i64 r.1,.string r.2] 24)).alloc (.cells #[.string ⟨#[]⟩,.string ⟨#[]⟩] 27)) d r:=by
 have h:=Blk.new w 27 [.string d.1,.string d.2]
 have h2:=Blk.new (w.alloc (.cells #[.string d.1,.string d.2] 27)) 24 [.int .i64 r.1,.string r.2]
 have h3:=Blk.new ((w.alloc (.cells #[.string d.1,.string d.2] 27)).alloc (.cells #[.int .i64 r.1,.string r.2] 24)) 27 [.string ⟨#[]⟩,.string ⟨#[]⟩]
 have g1:=size_al w (.cells #[.string d.1,.string d.2] 27)
 have g2:=size_al (w.alloc (.cells #[.string d.1,.string d.2] 27)) (.cells #[.int .i64 r.1,.string r.2] 24)
 rw [g1] at g2 h2
 rw [g2] at h3
 exact ⟨(h.below (bel_new _ _)).below (bel_new _ _),h2.below (bel_new _ _),h3,belD (belD (bel_new w _) (bel_new _ _)) (bel_new _ _)⟩
theorem FrA.below {w w' w'':World} {d:D2} {r:R2} (h:FrA w w' d r) (b:Below w'.heap.size w' w''):FrA w w'' d r:=⟨h.1.below b,h.2.1.below b,h.2.2.1.below b,h.2.2.2.trans (b.mono (by have:=h.2.1.lt;omega))⟩
theorem FrA.cells {w w':World} {d:D2} {r:R2} (h:FrA w w' d r):w'.cell? ⟨w.heap.size,0,none⟩=some (.string d.1)∧w'.cell? ⟨w.heap.size,1,none⟩=some (.string d.2)∧w'.cell? ⟨w.heap.size+1,0,none⟩=some (.int .i64 r.1)∧w'.cell? ⟨w.heap.size+1,1,none⟩=some (.string r.2)∧w'.cell? ⟨w.heap.size+2,0,none⟩=some (.string ⟨#[]⟩)∧w'.cell? ⟨w.heap.size+2,1,none⟩=some (.string ⟨#[]⟩)∧w'.frozen? ⟨w.heap.size+2,0,none⟩=false∧w'.frozen? ⟨w.heap.size+2,1,none⟩=false:=⟨h.1.cell 0,h.1.cell 1,h.2.1.cell 0,h.2.1.cell 1,h.2.2.1.cell 0,h.2.2.1.cell 1,h.2.2.1.frozen 0,h.2.2.1.frozen 1⟩
theorem FrA.fin {w w':World} {d:D2} {r:R2} (h:Hid (FrA w w' d r)) (s q:ByteArray):∃ W,W=(w'.setCell ⟨w.heap.size+2,0,none⟩ (.string s)).setCell ⟨w.heap.size+2,1,none⟩ (.string q)∧W.cell? ⟨w.heap.size+2,0,none⟩=some (.string s)∧W.cell? ⟨w.heap.size+2,1,none⟩=some (.string q)∧Below w.heap.size w W:=
 ⟨_,rfl,((h.out.2.2.1.set 0 (.string s)).set 1 (.string q)).cell 0,((h.out.2.2.1.set 0 (.string s)).set 1 (.string q)).cell 1,h.out.2.2.2.trans ((Below.setCell (Below.refl _ w') (p:=⟨w.heap.size+2,0,none⟩) (by simp) _).trans (Below.setCell (Below.refl _ _) (p:=⟨w.heap.size+2,1,none⟩) (by simp) _))⟩

end Go.Proofs.YtdopgkbegjfhjaaGreatDoor
