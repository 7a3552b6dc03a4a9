/-
  Joined: RyI, RpA.
-/
import Derived.Maps.AppendAt
import Derived.Deep.Cut
import Derived.Stop.Asserts
import Derived.Test.YtifoggpohlegmaaGreatDoorC06
import Derived.Test.YtifoggpohlegmaaGreatDoorC15

namespace Go.Proofs.YtifoggpohlegmaaGreatDoor
set_option maxRecDepth 100000
set_option maxHeartbeats 16000000
namespace Rp
open Go.RowKit
set_option linter.unusedVariables false
set_option linter.unusedSimpArgs false
variable {fv : Value}

def machR (fv c0 c1 c2:Value) (m:V4):List Value:=
 [c0,.int .i64 (m.1.getD 0 0),.int .i64 (m.2.2.2.getD 0 0),.int .i64 (m.2.2.2.getD 1 0),
  c1,.int .i64 (m.1.getD 1 0),.int .i64 (m.2.2.2.getD 2 0),.int .i64 (m.2.2.2.getD 3 0),
  c2,.int .i64 (m.1.getD 2 0),.int .i64 (m.2.2.2.getD 4 0),.int .i64 (m.2.2.2.getD 5 0),
  .int .i64 (m.2.1.getD 0 0),.int .i64 (m.2.1.getD 1 0),.int .i64 (m.2.1.getD 2 0),.int .i64 (m.2.1.getD 3 0),
  .int .i64 (m.2.2.1.getD 0 0),.int .i64 (m.2.2.1.getD 1 0),fv]
theorem machR_found (fv c0 c1 c2:Value) (m:V4):(machR fv c0 c1 c2 m)[18]?=some fv:=rfl
theorem machR_set (fv fv' c0 c1 c2:Value) (m:V4):(machR fv c0 c1 c2 m).set 18 fv'=machR fv' c0 c1 c2 m:=rfl
section
variable (c0 c1 c2 : Value) (m : V4)
theorem mc_code {k:Nat} (hk:k<3):(machR fv c0 c1 c2 m)[k*4]?=some (codeV c0 c1 c2 k):=by
 match k,hk with
 | 0,_=>rfl
 | 1,_=>rfl
 | 2,_=>rfl
theorem mc_pc {k:Nat} (hk:k<3):(machR fv c0 c1 c2 m)[k*4+1]?=some (.int .i64 (m.1.getD k 0)):=by
 match k,hk with
 | 0,_=>rfl
 | 1,_=>rfl
 | 2,_=>rfl
theorem mc_reg {k a:Nat} (hk:k<3) (ha:a<2):(machR fv c0 c1 c2 m)[k*4+2+a]?=some (.int .i64 (m.2.2.2.getD (k*2+a) 0)):=by
 match k,hk,a,ha with
 | 0,_,0,_=>rfl
 | 1,_,0,_=>rfl
 | 2,_,0,_=>rfl
 | 0,_,1,_=>rfl
 | 1,_,1,_=>rfl
 | 2,_,1,_=>rfl
theorem mc_var {a:Nat} (ha:a<4):(machR fv c0 c1 c2 m)[12+a]?=some (.int .i64 (m.2.1.getD a 0)):=by
 match a,ha with
 | 0,_=>rfl
 | 1,_=>rfl
 | 2,_=>rfl
 | 3,_=>rfl
theorem mc_held {a:Nat} (ha:a<2):(machR fv c0 c1 c2 m)[16+a]?=some (.int .i64 (m.2.2.1.getD a 0)):=by
 match a,ha with
 | 0,_=>rfl
 | 1,_=>rfl
end
section
variable (c0 c1 c2 : Value) (m : V4) (h : LenOk m)
include h
theorem mt_pc {k:Nat} (hk:k<3) (v:Int):(machR fv c0 c1 c2 m).set (k*4+1) (.int .i64 v)=machR fv c0 c1 c2 (m.1.set k v,m.2):=by
 obtain ⟨p0,p1,p2,v0,v1,v2,v3,h0,h1,x0,y0,x1,y1,x2,y2,rfl⟩:=h.lists
 match k,hk with
 | 0,_=>rfl
 | 1,_=>rfl
 | 2,_=>rfl
theorem mt_reg {k a:Nat} (hk:k<3) (ha:a<2) (v:Int):(machR fv c0 c1 c2 m).set (k*4+2+a) (.int .i64 v)=machR fv c0 c1 c2 (m.1,m.2.1,m.2.2.1,m.2.2.2.set (k*2+a) v):=by
 obtain ⟨p0,p1,p2,v0,v1,v2,v3,h0,h1,x0,y0,x1,y1,x2,y2,rfl⟩:=h.lists
 match k,hk,a,ha with
 | 0,_,0,_=>rfl
 | 1,_,0,_=>rfl
 | 2,_,0,_=>rfl
 | 0,_,1,_=>rfl
 | 1,_,1,_=>rfl
 | 2,_,1,_=>rfl
theorem mt_var {a:Nat} (ha:a<4) (v:Int):(machR fv c0 c1 c2 m).set (12+a) (.int .i64 v)=machR fv c0 c1 c2 (m.1,m.2.1.set a v,m.2.2.1,m.2.2.2):=by
 obtain ⟨p0,p1,p2,v0,v1,v2,v3,h0,h1,x0,y0,x1,y1,x2,y2,rfl⟩:=h.lists
 match a,ha with
 | 0,_=>rfl
 | 1,_=>rfl
 | 2,_=>rfl
 | 3,_=>rfl
theorem mt_held {a:Nat} (ha:a<2) (v:Int):(machR fv c0 c1 c2 m).set (16+a) (.int .i64 v)=machR fv c0 c1 c2 (m.1,m.2.1,m.2.2.1.set a v,m.2.2.2):=by
 obtain ⟨p0,p1,p2,v0,v1,v2,v3,h0,h1,x0,y0,x1,y1,x2,y2,rfl⟩:=h.lists
 match a,ha with
 | 0,_=>rfl
 | 1,_=>rfl
end
def MachAt (fv:Value) (w:World) (g:Nat) (cs:Sl × Sl × Sl) (rows:List (List I3)) (m:V4):Prop:=
 Blk w g 91 (machR fv cs.1.val cs.2.1.val cs.2.2.val m)∧∀ k,k<3→Instrs w (slK cs k).1 (slK cs k).2.1 (slK cs k).2.2 (codeM rows k)
theorem MachAt.below {w w':World} {g:Nat} {cs:Sl × Sl × Sl} {rows:List (List I3)} {m:V4} (h:MachAt fv w g cs rows m) (hb:Below w.heap.size w w'):MachAt fv w' g cs rows m:=⟨h.1.below hb,fun k hk=>(h.2 k hk).below hb⟩
theorem MachAt.code {w:World} {g:Nat} {cs:Sl × Sl × Sl} {rows:List (List I3)} {m:V4} (h:MachAt fv w g cs rows m) {k:Nat} (hk:k<3):w.cell? ⟨g,k*4,none⟩=some (.slice (slK cs k).1 (slK cs k).2.1 (slK cs k).2.2):=by
 rw [h.1.cell,mc_code _ _ _ _ hk,codeV_sl cs hk];rfl
theorem MachAt.pc {w:World} {g:Nat} {cs:Sl × Sl × Sl} {rows:List (List I3)} {m:V4} (h:MachAt fv w g cs rows m) {k:Nat} (hk:k<3):w.cell? ⟨g,k*4+1,none⟩=some (.int .i64 (m.1.getD k 0)):=by
 rw [h.1.cell,mc_pc _ _ _ _ hk]
theorem MachAt.held {w:World} {g:Nat} {cs:Sl × Sl × Sl} {rows:List (List I3)} {m:V4} (h:MachAt fv w g cs rows m) {a:Nat} (ha:a<2):w.cell? ⟨g,16+a,none⟩=some (.int .i64 (m.2.2.1.getD a 0)):=by
 rw [h.1.cell,mc_held _ _ _ _ ha]
theorem doneT_is {w:World} {g:Nat} {cs:Sl × Sl × Sl} {rows:List (List I3)} {m:V4} (h:MachAt fv w g cs rows m) {k:Nat} (hk:k<3) :
  Calls Tryz.prog 74 #[.pointer (some ⟨g,k*4,none⟩)] w fun e w'=>e=.returned (.bool (doneM rows m k))∧∃ d,w'=w.drewN d:=by
 have hl:=(h.2 k hk).1
 have:=done_is g (k*4) _ _ _ _ w (h.code hk) (h.pc hk)
 unfold doneM
 rw [hl]
 exact this
theorem waits_is {w:World} {g:Nat} {cs:Sl × Sl × Sl} {rows:List (List I3)} {m:V4} (h:MachAt fv w g cs rows m) (hp:progOk rows=true) (hs:shapeOk m=true) {k:Nat} (hk:k<3) :
  Calls Tryz.prog 75 #[.pointer (some ⟨g,0,none⟩),.int .i64 k] w fun e w'=>e=.returned (.bool (waitM rows m k))∧Below w.heap.size w w':=by
 unfold waitM
 cases hd:doneM rows m k
 ·obtain ⟨p,ep,hlt,hi,hok⟩:=at_ins hp hs hk hd
  have h0:=h.code hk
  have h1:=h.pc hk
  rw [ep] at h1
  obtain ⟨b,off,ea,hpn,c0,c1,c2⟩:=ins_at (h.2 k hk) hlt
  rw [← hi] at c0 c1 c2
  rw [ea] at h0
  by_cases h5:(insM rows m k).1=5
  ·obtain ⟨q,hq,hq2⟩:=okI_lock hok h5
   rw [h5] at c0
   rw [hq] at c1
   have hh:=h.held hq2
   have e:atLock m (insM rows m k)=!decide (m.2.2.1.getD q 0=0):=by
    unfold atLock
    rw [h5,hq]
    simp
   rw [e]
   exact waits_lock g k p b off _ _ _ q _ w hk hpn h0 h1 c0 c1 c2 hh hq2 _ rfl
  ·have e:atLock m (insM rows m k)=false:=by unfold atLock;simp [h5]
   rw [e]
   exact waits_free g k p b off _ _ _ _ _ w hk hpn h0 h1 c0 c1 c2 h5
 ·have h0:=h.code hk
  have h1:=h.pc hk
  unfold doneM at hd
  simp only [decide_eq_true_eq] at hd
  rw [(h.2 k hk).1] at hd
  exact waits_done g k _ _ _ _ w hk h0 h1 hd

end Rp

open Go.RowKit
set_option linter.unusedVariables false
set_option linter.unusedSimpArgs false

theorem rstep_range (g:Nat) (k:Int) (w:World) (hk:inB k 0 2=false) :
  Calls Tryz.prog 119 #[.pointer (some ⟨g,0,none⟩),.int .i64 k] w fun e w'=>e=.returned (.iface 162 (.int .i64 4))∧w=w':=by
 have kT:=isThread_is k
 rw [hk] at kT
 clear hk
 go_enter Tryz.func119,Tryz.ntmps119
 go_wp2_with fail
 refine (kT _).mono ?_
 rintro e w1 ⟨rfl,rfl⟩
 go_wp2
 go_ret
 exact ⟨rfl,rfl⟩

theorem rstep_done {fv:Value} {w:World} {g:Nat} {cs:Sl × Sl × Sl} {rows:List (List I3)} {m:V4} (h:Rp.MachAt fv w g cs rows m) {k:Nat} (hk:k<3) (hd:doneM rows m k=true) :
  Calls Tryz.prog 119 #[.pointer (some ⟨g,0,none⟩),.int .i64 k] w fun e w'=>e=.returned (.iface 162 (.int .i64 10))∧Below w.heap.size w w':=by
 have kT:=isThread_is k
 have ht:inB (k:Int) 0 2=true:=inB_true.2 (by omega)
 have kD:=Rp.doneT_is h hk
 rw [ht] at kT
 rw [hd] at kD
 have hk3:(k:Int)<3:=by omega
 clear hd ht h
 go_enter Tryz.func119,Tryz.ntmps119
 go_wp2_with fail
 refine (kT _).mono ?_
 rintro e w1 ⟨rfl,rfl⟩
 clear kT
 go_wp2_with fail
 refine kD.mono ?_
 rintro e w1 ⟨rfl,d,rfl⟩
 go_wp2
 go_ret
 exact ⟨rfl,below_dN _⟩

theorem rstep_waits {fv:Value} {w:World} {g:Nat} {cs:Sl × Sl × Sl} {rows:List (List I3)} {m:V4} (h:Rp.MachAt fv w g cs rows m) (hp:progOk rows=true) (hs:shapeOk m=true) {k:Nat} (hk:k<3) (hd:doneM rows m k=false) (hw:waitM rows m k=true) :
  Calls Tryz.prog 119 #[.pointer (some ⟨g,0,none⟩),.int .i64 k] w fun e w'=>e=.returned (.iface 162 (.int .i64 11))∧Below w.heap.size w w':=by
 have kT:=isThread_is k
 have ht:inB (k:Int) 0 2=true:=inB_true.2 (by omega)
 have kD:=Rp.doneT_is h hk
 have kW:=fun W (hM:Rp.MachAt fv W g cs rows m)=>Rp.waits_is hM hp hs hk
 rw [ht] at kT
 rw [hd] at kD
 rw [hw] at kW
 have hk3:(k:Int)<3:=by omega
 clear hd ht hw hp hs
 go_enter Tryz.func119,Tryz.ntmps119
 go_wp2_with fail
 refine (kT _).mono ?_
 rintro e w1 ⟨rfl,rfl⟩
 clear kT
 go_wp2_with fail
 refine kD.mono ?_
 rintro e w1 ⟨rfl,d,rfl⟩
 clear kD
 go_wp2_with fail
 refine (kW _ (h.below (below_dN _))).mono ?_
 rintro e w1 ⟨rfl,hb⟩
 have bz:Below w.heap.size w w1:=bel_trans (below_dN _) hb
 clear hb kW h
 go_wp2
 go_ret
 exact ⟨rfl,bz⟩

theorem bug_of_halt (v:Value) (w:World):(Instr.typeAssert (.iface 162 v) 166 64 true).run Tryz.prog w=.ok (.tuple #[.agg #[.int .i64 0,.int .i64 0,.int .i64 0],.bool false]) w:=by kernel_rfl
theorem bug_of_bug (v:Value) (w:World):(Instr.typeAssert (.iface 64 v) 166 64 true).run Tryz.prog w=.ok (.tuple #[v,.bool true]) w:=by kernel_rfl
theorem halt_of_halt (v:Value) (w:World):(Instr.typeAssert (.iface 162 v) 20 162 false).run Tryz.prog w=.ok v w:=by kernel_rfl

theorem keep_halt (g:Nat) (c:Int) (w:World) :
  Calls Tryz.prog 118 #[.pointer (some ⟨g,0,none⟩),.iface 162 (.int .i64 c)] w fun e w'=>e=.panicked [{ v:=.iface 162 (.int .i64 c),recovered:=false }]∧Below w.heap.size w w':=by
 have hA:=bug_of_halt
 go_enter Tryz.func118,Tryz.ntmps118
 go_wp2
 exact ⟨rfl,rfl,by go_grown⟩

theorem keep_ok (g:Nat) (k pc:Int) (w:World) :
  Calls Tryz.prog 118 #[.pointer (some ⟨g,0,none⟩),.iface 64 (.agg #[.int .i64 0,.int .i64 k,.int .i64 pc])] w fun e w'=>e=.returned (.tuple #[])∧Below w.heap.size w w':=by
 have hA:=bug_of_bug
 go_enter Tryz.func118,Tryz.ntmps118
 go_wp2
 go_end0
 exact ⟨rfl,by go_grown⟩
end Go.Proofs.YtifoggpohlegmaaGreatDoor
