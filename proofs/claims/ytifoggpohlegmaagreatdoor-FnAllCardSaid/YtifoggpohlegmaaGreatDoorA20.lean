/-
  Joined: RyI, RpA, RyP, RpB.
-/
import Derived.Stop.Asserts
import Derived.Test.YtifoggpohlegmaaGreatDoorA19

namespace Go.Proofs.YtifoggpohlegmaaGreatDoor
set_option maxRecDepth 100000
set_option maxHeartbeats 16000000
namespace Rp
open Go.RowKit
set_option linter.unusedVariables false
set_option linter.unusedSimpArgs false
variable {fv : Value}

def machR (fv c0 c1 c2:Value) (m:V4):List Value:=
 [c0,.int .i64 (m.1.getD 0 0),.int .i64 (m.2.2.2.getD 0 0),.int .i64 (m.2.2.2.getD 1 0),
  c1,.int .i64 (m.1.getD 1 0),.int .i64 (m.2.2.2.getD 2 0),.int .i64 (m.2.2.2.getD 3 0),
  c2,.int .i64 (m.1.getD 2 0),.int .i64 (m.2.2.2.getD 4 0),.int .i64 (m.2.2.2.getD 5 0),
  .int .i64 (m.2.1.getD 0 0),.int .i64 (m.2.1.getD 1 0),.int .i64 (m.2.1.getD 2 0),.int .i64 (m.2.1.getD 3 0),
  .int .i64 (m.2.2.1.getD 0 0),.int .i64 (m.2.2.1.getD 1 0),fv]
theorem machR_found (fv c0 c1 c2:Value) (m:V4):(machR fv c0 c1 c2 m)[18]?=some fv:=rfl
theorem machR_set (fv fv' c0 c1 c2:Value) (m:V4):(machR fv c0 c1 c2 m).set 18 fv'=machR fv' c0 c1 c2 m:=rfl
section
variable (c0 c1 c2 : Value) (m : V4)
theorem mc_code {k:Nat} (hk:k<3):(machR fv c0 c1 c2 m)[k*4]?=some (codeV c0 c1 c2 k):=by
 match k,hk with
 | 0,_=>rfl
 | 1,_=>rfl
 | 2,_=>rfl
theorem mc_pc {k:Nat} (hk:k<3):(machR fv c0 c1 c2 m)[k*4+1]?=some (.int .i64 (m.1.getD k 0)):=by
 match k,hk with
 | 0,_=>rfl
 | 1,_=>rfl
 | 2,_=>rfl
theorem mc_reg {k a:Nat} (hk:k<3) (ha:a<2):(machR fv c0 c1 c2 m)[k*4+2+a]?=some (.int .i64 (m.2.2.2.getD (k*2+a) 0)):=by
 match k,hk,a,ha with
 | 0,_,0,_=>rfl
 | 1,_,0,_=>rfl
 | 2,_,0,_=>rfl
 | 0,_,1,_=>rfl
 | 1,_,1,_=>rfl
 | 2,_,1,_=>rfl
theorem mc_var {a:Nat} (ha:a<4):(machR fv c0 c1 c2 m)[12+a]?=some (.int .i64 (m.2.1.getD a 0)):=by
 match a,ha with
 | 0,_=>rfl
 | 1,_=>rfl
 | 2,_=>rfl
 | 3,_=>rfl
theorem mc_held {a:Nat} (ha:a<2):(machR fv c0 c1 c2 m)[16+a]?=some (.int .i64 (m.2.2.1.getD a 0)):=by
 match a,ha with
 | 0,_=>rfl
 | 1,_=>rfl
end
section
variable (c0 c1 c2 : Value) (m : V4) (h : LenOk m)
include h
theorem mt_pc {k:Nat} (hk:k<3) (v:Int):(machR fv c0 c1 c2 m).set (k*4+1) (.int .i64 v)=machR fv c0 c1 c2 (m.1.set k v,m.2):=by
 obtain ⟨p0,p1,p2,v0,v1,v2,v3,h0,h1,x0,y0,x1,y1,x2,y2,rfl⟩:=h.lists
 match k,hk with
 | 0,_=>rfl
 | 1,_=>rfl
 | 2,_=>rfl
theorem mt_reg {k a:Nat} (hk:k<3) (ha:a<2) (v:Int):(machR fv c0 c1 c2 m).set (k*4+2+a) (.int .i64 v)=machR fv c0 c1 c2 (m.1,m.2.1,m.2.2.1,m.2.2.2.set (k*2+a) v):=by
 obtain ⟨p0,p1,p2,v0,v1,v2,v3,h0,h1,x0,y0,x1,y1,x2,y2,rfl⟩:=h.lists
 match k,hk,a,ha with
 | 0,_,0,_=>rfl
 | 1,_,0,_=>rfl
 | 2,_,0,_=>rfl
 | 0,_,1,_=>rfl
 | 1,_,1,_=>rfl
 | 2,_,1,_=>rfl
theorem mt_var {a:Nat} (ha:a<4) (v:Int):(machR fv c0 c1 c2 m).set (12+a) (.int .i64 v)=machR fv c0 c1 c2 (m.1,m.2.1.set a v,m.2.2.1,m.2.2.2):=by
 obtain ⟨p0,p1,p2,v0,v1,v2,v3,h0,h1,x0,y0,x1,y1,x2,y2,rfl⟩:=h.lists
 match a,ha with
 | 0,_=>rfl
 | 1,_=>rfl
 | 2,_=>rfl
 | 3,_=>rfl
theorem mt_held {a:Nat} (ha:a<2) (v:Int):(machR fv c0 c1 c2 m).set (16+a) (.int .i64 v)=machR fv c0 c1 c2 (m.1,m.2.1,m.2.2.1.set a v,m.2.2.2):=by
 obtain ⟨p0,p1,p2,v0,v1,v2,v3,h0,h1,x0,y0,x1,y1,x2,y2,rfl⟩:=h.lists
 match a,ha with
 | 0,_=>rfl
 | 1,_=>rfl
end
def MachAt (fv:Value) (w:World) (g:Nat) (cs:Sl × Sl × Sl) (rows:List (List I3)) (m:V4):Prop:=
 Blk w g 91 (machR fv cs.1.val cs.2.1.val cs.2.2.val m)∧∀ k,k<3→Instrs w (slK cs k).1 (slK cs k).2.1 (slK cs k).2.2 (codeM rows k)
theorem MachAt.below {w w':World} {g:Nat} {cs:Sl × Sl × Sl} {rows:List (List I3)} {m:V4} (h:MachAt fv w g cs rows m) (hb:Below w.heap.size w w'):MachAt fv w' g cs rows m:=⟨h.1.below hb,fun k hk=>(h.2 k hk).below hb⟩
theorem MachAt.code {w:World} {g:Nat} {cs:Sl × Sl × Sl} {rows:List (List I3)} {m:V4} (h:MachAt fv w g cs rows m) {k:Nat} (hk:k<3):w.cell? ⟨g,k*4,none⟩=some (.slice (slK cs k).1 (slK cs k).2.1 (slK cs k).2.2):=by
 rw [h.1.cell,mc_code _ _ _ _ hk,codeV_sl cs hk];rfl
theorem MachAt.pc {w:World} {g:Nat} {cs:Sl × Sl × Sl} {rows:List (List I3)} {m:V4} (h:MachAt fv w g cs rows m) {k:Nat} (hk:k<3):w.cell? ⟨g,k*4+1,none⟩=some (.int .i64 (m.1.getD k 0)):=by
 rw [h.1.cell,mc_pc _ _ _ _ hk]
theorem MachAt.held {w:World} {g:Nat} {cs:Sl × Sl × Sl} {rows:List (List I3)} {m:V4} (h:MachAt fv w g cs rows m) {a:Nat} (ha:a<2):w.cell? ⟨g,16+a,none⟩=some (.int .i64 (m.2.2.1.getD a 0)):=by
 rw [h.1.cell,mc_held _ _ _ _ ha]
theorem doneT_is {w:World} {g:Nat} {cs:Sl × Sl × Sl} {rows:List (List I3)} {m:V4} (h:MachAt fv w g cs rows m) {k:Nat} (hk:k<3) :
  Calls Tryz.prog 74 #[.pointer (some ⟨g,k*4,none⟩)] w fun e w'=>e=.returned (.bool (doneM rows m k))∧∃ d,w'=w.drewN d:=by
 have hl:=(h.2 k hk).1
 have:=done_is g (k*4) _ _ _ _ w (h.code hk) (h.pc hk)
 unfold doneM
 rw [hl]
 exact this
theorem waits_is {w:World} {g:Nat} {cs:Sl × Sl × Sl} {rows:List (List I3)} {m:V4} (h:MachAt fv w g cs rows m) (hp:progOk rows=true) (hs:shapeOk m=true) {k:Nat} (hk:k<3) :
  Calls Tryz.prog 75 #[.pointer (some ⟨g,0,none⟩),.int .i64 k] w fun e w'=>e=.returned (.bool (waitM rows m k))∧Below w.heap.size w w':=by
 unfold waitM
 cases hd:doneM rows m k
 ·obtain ⟨p,ep,hlt,hi,hok⟩:=at_ins hp hs hk hd
  have h0:=h.code hk
  have h1:=h.pc hk
  rw [ep] at h1
  obtain ⟨b,off,ea,hpn,c0,c1,c2⟩:=ins_at (h.2 k hk) hlt
  rw [← hi] at c0 c1 c2
  rw [ea] at h0
  by_cases h5:(insM rows m k).1=5
  ·obtain ⟨q,hq,hq2⟩:=okI_lock hok h5
   rw [h5] at c0
   rw [hq] at c1
   have hh:=h.held hq2
   have e:atLock m (insM rows m k)=!decide (m.2.2.1.getD q 0=0):=by
    unfold atLock
    rw [h5,hq]
    simp
   rw [e]
   exact waits_lock g k p b off _ _ _ q _ w hk hpn h0 h1 c0 c1 c2 hh hq2 _ rfl
  ·have e:atLock m (insM rows m k)=false:=by unfold atLock;simp [h5]
   rw [e]
   exact waits_free g k p b off _ _ _ _ _ w hk hpn h0 h1 c0 c1 c2 h5
 ·have h0:=h.code hk
  have h1:=h.pc hk
  unfold doneM at hd
  simp only [decide_eq_true_eq] at hd
  rw [(h.2 k hk).1] at hd
  exact waits_done g k _ _ _ _ w hk h0 h1 hd

end Rp

open Go.RowKit
set_option linter.unusedVariables false
set_option linter.unusedSimpArgs false

theorem rstep_range (g:Nat) (k:Int) (w:World) (hk:inB k 0 2=false) :
  Calls Tryz.prog 119 #[.pointer (some ⟨g,0,none⟩),.int .i64 k] w fun e w'=>e=.returned (.iface 162 (.int .i64 4))∧w=w':=by
 have kT:=isThread_is k
 rw [hk] at kT
 clear hk
 go_enter Tryz.func119,Tryz.ntmps119
 go_wp2_with fail
 refine (kT _).mono ?_
 rintro e w1 ⟨rfl,rfl⟩
 go_wp2
 go_ret
 exact ⟨rfl,rfl⟩

theorem rstep_done {fv:Value} {w:World} {g:Nat} {cs:Sl × Sl × Sl} {rows:List (List I3)} {m:V4} (h:Rp.MachAt fv w g cs rows m) {k:Nat} (hk:k<3) (hd:doneM rows m k=true) :
  Calls Tryz.prog 119 #[.pointer (some ⟨g,0,none⟩),.int .i64 k] w fun e w'=>e=.returned (.iface 162 (.int .i64 10))∧Below w.heap.size w w':=by
 have kT:=isThread_is k
 have ht:inB (k:Int) 0 2=true:=inB_true.2 (by omega)
 have kD:=Rp.doneT_is h hk
 rw [ht] at kT
 rw [hd] at kD
 have hk3:(k:Int)<3:=by omega
 clear hd ht h
 go_enter Tryz.func119,Tryz.ntmps119
 go_wp2_with fail
 refine (kT _).mono ?_
 rintro e w1 ⟨rfl,rfl⟩
 clear kT
 go_wp2_with fail
 refine kD.mono ?_
 rintro e w1 ⟨rfl,d,rfl⟩
 go_wp2
 go_ret
 exact ⟨rfl,below_dN _⟩

theorem rstep_waits {fv:Value} {w:World} {g:Nat} {cs:Sl × Sl × Sl} {rows:List (List I3)} {m:V4} (h:Rp.MachAt fv w g cs rows m) (hp:progOk rows=true) (hs:shapeOk m=true) {k:Nat} (hk:k<3) (hd:doneM rows m k=false) (hw:waitM rows m k=true) :
  Calls Tryz.prog 119 #[.pointer (some ⟨g,0,none⟩),.int .i64 k] w fun e w'=>e=.returned (.iface 162 (.int .i64 11))∧Below w.heap.size w w':=by
 have kT:=isThread_is k
 have ht:inB (k:Int) 0 2=true:=inB_true.2 (by omega)
 have kD:=Rp.doneT_is h hk
 have kW:=fun W (hM:Rp.MachAt fv W g cs rows m)=>Rp.waits_is hM hp hs hk
 rw [ht] at kT
 rw [hd] at kD
 rw [hw] at kW
 have hk3:(k:Int)<3:=by omega
 clear hd ht hw hp hs
 go_enter Tryz.func119,Tryz.ntmps119
 go_wp2_with fail
 refine (kT _).mono ?_
 rintro e w1 ⟨rfl,rfl⟩
 clear kT
 go_wp2_with fail
 refine kD.mono ?_
 rintro e w1 ⟨rfl,d,rfl⟩
 clear kD
 go_wp2_with fail
 refine (kW _ (h.below (below_dN _))).mono ?_
 rintro e w1 ⟨rfl,hb⟩
 have bz:Below w.heap.size w w1:=bel_trans (below_dN _) hb
 clear hb kW h
 go_wp2
 go_ret
 exact ⟨rfl,bz⟩

theorem bug_of_halt (v:Value) (w:World):(Instr.typeAssert (.iface 162 v) 166 64 true).run Tryz.prog w=.ok (.tuple #[.agg #[.int .i64 0,.int .i64 0,.int .i64 0],.bool false]) w:=by kernel_rfl
theorem bug_of_bug (v:Value) (w:World):(Instr.typeAssert (.iface 64 v) 166 64 true).run Tryz.prog w=.ok (.tuple #[v,.bool true]) w:=by kernel_rfl
theorem halt_of_halt (v:Value) (w:World):(Instr.typeAssert (.iface 162 v) 20 162 false).run Tryz.prog w=.ok v w:=by kernel_rfl

theorem keep_halt (g:Nat) (c:Int) (w:World) :
  Calls Tryz.prog 118 #[.pointer (some ⟨g,0,none⟩),.iface 162 (.int .i64 c)] w fun e w'=>e=.panicked [{ v:=.iface 162 (.int .i64 c),recovered:=false }]∧Below w.heap.size w w':=by
 have hA:=bug_of_halt
 go_enter Tryz.func118,Tryz.ntmps118
 go_wp2
 exact ⟨rfl,rfl,by go_grown⟩

theorem keep_ok (g:Nat) (k pc:Int) (w:World) :
  Calls Tryz.prog 118 #[.pointer (some ⟨g,0,none⟩),.iface 64 (.agg #[.int .i64 0,.int .i64 k,.int .i64 pc])] w fun e w'=>e=.returned (.tuple #[])∧Below w.heap.size w w':=by
 have hA:=bug_of_bug
 go_enter Tryz.func118,Tryz.ntmps118
 go_wp2
 go_end0
 exact ⟨rfl,by go_grown⟩

namespace Rp
open Go.RowKit
set_option linter.unusedVariables false
set_option linter.unusedSimpArgs false
variable {fv : Value}

theorem unlock_yes (g k a:Nat) (cs:Sl × Sl × Sl) (m:V4) (w:World) (hk:k<3) (ha:a<2) (hL:LenOk m) (hM:Blk w g 91 (machR fv cs.1.val cs.2.1.val cs.2.2.val m)) (hv:m.2.2.1.getD a 0=(k:Int)+1) :
  Calls Tryz.prog 134 #[.pointer (some ⟨g,0,none⟩),.int .i64 k,.int .i64 a] w fun e w'=>e=.returned (.int .i64 0)∧Blk w' g 91 (machR fv cs.1.val cs.2.1.val cs.2.2.val (m.1,m.2.1,m.2.2.1.set a 0,m.2.2.2))∧w.grownBy w' (some g):=by
 have r1:w.cell? ⟨g,16+a,none⟩=some (.int .i64 ((k:Int)+1)):=(hM.cell _).trans ((mc_held _ _ _ _ ha).trans (by rw [← hv]))
 have f1:=hM.frozen (16+a)
 have hM4:=hM.set (16+a) (.int .i64 0)
 rw [mt_held _ _ _ _ hL ha] at hM4
 have g4:=grown_cell w g (16+a) (.int .i64 0)
 have ha2:(a:Int)<2:=by omega
 have hne:(((k:Int)+1) != ((k:Int)+1))=false:=by simp
 have hkw:IntKind.i64.wrap ((k:Int)+1)=(k:Int)+1:=IntWalk.i64_in _ (by omega)
 clear hv hM
 go_enter Tryz.func134,Tryz.ntmps134
 go_wp2
 go_ret
 exact ⟨rfl,hM4,g4⟩
theorem unlock_no (g k a:Nat) (cs:Sl × Sl × Sl) (m:V4) (w:World) (hk:k<3) (ha:a<2) (hM:Blk w g 91 (machR fv cs.1.val cs.2.1.val cs.2.2.val m)) (hv:m.2.2.1.getD a 0≠(k:Int)+1) :
  Calls Tryz.prog 134 #[.pointer (some ⟨g,0,none⟩),.int .i64 k,.int .i64 a] w fun e w'=>e=.returned (.int .i64 13)∧w=w':=by
 have r1:w.cell? ⟨g,16+a,none⟩=some (.int .i64 (m.2.2.1.getD a 0)):=(hM.cell _).trans (mc_held _ _ _ _ ha)
 have ha2:(a:Int)<2:=by omega
 generalize m.2.2.1.getD a 0=hh at *
 have hne:(hh != ((k:Int)+1))=true:=by simp [hv]
 have hkw:IntKind.i64.wrap ((k:Int)+1)=(k:Int)+1:=IntWalk.i64_in _ (by omega)
 clear hM
 go_enter Tryz.func134,Tryz.ntmps134
 go_wp2
 go_ret
 exact ⟨rfl,rfl⟩
theorem step_load (g k p b off n c:Nat) (a q:Nat) (vv:Int) (cs:Sl × Sl × Sl) (m:V4) (w:World) (hk:k<3) (hp:p<n) (hp6:p≤6) (hL:LenOk m) (hM:Blk w g 91 (machR fv cs.1.val cs.2.1.val cs.2.2.val m)) (hg:g≠b∨True)
  (e0:w.cell? ⟨g,k*4,none⟩=some (.slice (some ⟨b,off,none⟩) n c)) (e1:w.cell? ⟨g,k*4+1,none⟩=some (.int .i64 p)) (q0:w.cell? ⟨b,off+p*3,none⟩=some (.int .i64 1)) (q1:w.cell? ⟨b,off+p*3+1,none⟩=some (.int .i64 a)) (q2:w.cell? ⟨b,off+p*3+2,none⟩=some (.int .i64 q)) (ha:a<2) (hq:q<4) (hvv:m.2.1.getD q 0=vv) :
  Calls Tryz.prog 76 #[.pointer (some ⟨g,0,none⟩),.int .i64 k] w fun e w'=>e=.returned (.int .i64 0)∧Blk w' g 91 (machR fv cs.1.val cs.2.1.val cs.2.2.val (m.1.set k ((p:Int)+1),m.2.1,m.2.2.1,m.2.2.2.set (k*2+a) vv))∧w.grownBy w' (some g):=by
 have hk3:(k:Int)<3:=by omega
 have hpn:(p:Int)<(n:Int):=by omega
 go_enter Tryz.func76,Tryz.ntmps76
 go_wp2_with fail
 refine wp_region_held_drew (S:=(fun w'=>w'.cell? ⟨g,k*4,none⟩=some (.slice (some ⟨b,off,none⟩) n c)∧w'.cell? ⟨g,k*4+1,none⟩=some (.int .i64 p)∧w'.cell? ⟨b,off+p*3,none⟩=some (.int .i64 1)∧w'.cell? ⟨b,off+p*3+1,none⟩=some (.int .i64 a)∧w'.cell? ⟨b,off+p*3+2,none⟩=some (.int .i64 q))) (by kernel_rfl) ⟨e0,e1,q0,q1,q2⟩ (fun hS0=>?_)
 refine tkm 0 12 (.pointer (some ⟨g,k*4,none⟩)) ?_
 refine tkm 1 13 (.pointer (some ⟨g,k*4,none⟩)) ?_
 refine tkm 2 14 (.pointer (some ⟨g,k*4,none⟩)) ?_
 refine tkm 3 15 (.slice (some ⟨b,off,none⟩) n c) ?_
 refine tkm 4 16 (.pointer (some ⟨g,k*4,none⟩)) ?_
 refine tkm 5 17 (.pointer (some ⟨g,k*4,none⟩)) ?_
 refine tkm 6 18 (.pointer (some ⟨g,k*4+1,none⟩)) ?_
 refine tkm 7 19 (.int .i64 p) ?_
 refine tkm 8 20 (.pointer (some ⟨b,off+p*3,none⟩)) ?_
 refine tkm 9 21 (.agg #[.int .i64 1,.int .i64 a,.int .i64 q]) ?_
 refine tkr 10 6 (fun K hK=>?_)
 have hal:Below w.drew.heap.size w.drew (w.drew.alloc (.cells #[.int .i64 0,.int .i64 0,.int .i64 0] 159)):=by go_grown
 go_simp
 refine hK.out _ _ ?_ (fun hS1=>?_)
 ·exact ⟨cells_kept hal _ _ hS0.1,cells_kept hal _ _ hS0.2.1,cells_kept hal _ _ hS0.2.2.1,cells_kept hal _ _ hS0.2.2.2.1,cells_kept hal _ _ hS0.2.2.2.2⟩
 clear hK
 try simp only [Act.put,tka,tkb,tkc]
 refine tkz 11 (fun K hK=>?_)
 have hal2:Below w.drew.heap.size w.drew (w.drew.alloc (.cells #[.int .i64 1,.int .i64 a,.int .i64 q] 159)):=by go_grown
 go_simp
 refine hK.out _ _ ?_ (fun hS2=>?_)
 ·exact ⟨cells_kept hal2 _ _ hS0.1,cells_kept hal2 _ _ hS0.2.1,cells_kept hal2 _ _ hS0.2.2.1,cells_kept hal2 _ _ hS0.2.2.2.1,cells_kept hal2 _ _ hS0.2.2.2.2⟩
 clear hK
 try simp only [Act.put,tka,tkb,tkc]
 refine wpAnyH_done (by kernel_rfl) ?_ _
 clear hal hal2 hS0 hS1 hS2
 have bx:Below w.heap.size w (w.alloc (.cells #[.int .i64 1,.int .i64 a,.int .i64 q] 159)).drew:=by go_grown
 have pX:Blk (w.alloc (.cells #[.int .i64 1,.int .i64 a,.int .i64 q] 159)).drew w.heap.size 159 [.int .i64 1,.int .i64 a,.int .i64 q]:=Blk.new w 159 [.int .i64 1,.int .i64 a,.int .i64 q]
 have hgl:=hM.lt
 replace hM:=hM.below bx
 replace e1:=cells_kept bx _ _ e1
 have gx:w.grownBy (w.alloc (.cells #[.int .i64 1,.int .i64 a,.int .i64 q] 159)).drew (some g):=grown_new bx
 clear bx e0 q0 q1 q2
 generalize hW2:(w.alloc (.cells #[.int .i64 1,.int .i64 a,.int .i64 q] 159)).drew=W2 at *
 clear hW2
 have hne:w.heap.size≠g:=by omega
 generalize w.heap.size=gX at *
 have f1:=hM.frozen (k*4+1)
 have hM3:=hM.set (k*4+1) (.int .i64 ((p:Int)+1))
 rw [mt_pc _ _ _ _ hL hk] at hM3
 have pX3:=pX.off ⟨g,k*4+1,none⟩ (.int .i64 ((p:Int)+1)) hne
 have g3:=grown_tr gx (grown_cell W2 g (k*4+1) (.int .i64 ((p:Int)+1)))
 have u0:=pX3.cell 0
 have u1:=pX3.cell 1
 have u2:=pX3.cell 2
 simp only [List.getElem?_cons_zero,List.getElem?_cons_succ] at u0 u1 u2
 have r1:(W2.setCell ⟨g,k*4+1,none⟩ (.int .i64 ((p:Int)+1))).cell? ⟨g,12+q,none⟩=some (.int .i64 vv):=(hM3.cell _).trans ((mc_var _ _ _ _ hq).trans (congrArg (fun z=>some (Value.int .i64 z)) hvv))
 obtain ⟨old,r2⟩:∃ u,(W2.setCell ⟨g,k*4+1,none⟩ (.int .i64 ((p:Int)+1))).cell? ⟨g,k*4+2+a,none⟩=some u:=⟨_,(hM3.cell _).trans (mc_reg _ _ _ _ hk ha)⟩
 have f_s:=hM3.frozen (k*4+2+a)
 have hM4:=hM3.set (k*4+2+a) (.int .i64 vv)
 rw [mt_reg _ _ _ _ (hL.pc _ _) hk ha] at hM4
 simp only at hM4
 have g4:=grown_tr g3 (grown_cell (W2.setCell ⟨g,k*4+1,none⟩ (.int .i64 ((p:Int)+1))) g (k*4+2+a) (.int .i64 vv))
 have ha2:(a:Int)<2:=by omega
 have hq4:(q:Int)<4:=by omega

 have hpw:IntKind.i64.wrap ((p:Int)+1)=(p:Int)+1:=IntWalk.i64_in _ (by omega)
 clear hM gx pX
 clear hvv hM3 g3 pX3
 go_wp2_with fail
 generalize (W2.setCell ⟨g,k*4+1,none⟩ (.int .i64 ((p:Int)+1)))=W3 at *
 go_region
 go_wp2
 go_ret
 exact ⟨rfl,hM4,grown_drew g4⟩
theorem step_store (g k p b off n c:Nat) (a q:Nat) (vv:Int) (cs:Sl × Sl × Sl) (m:V4) (w:World) (hk:k<3) (hp:p<n) (hp6:p≤6) (hL:LenOk m) (hM:Blk w g 91 (machR fv cs.1.val cs.2.1.val cs.2.2.val m)) (hg:g≠b∨True)
  (e0:w.cell? ⟨g,k*4,none⟩=some (.slice (some ⟨b,off,none⟩) n c)) (e1:w.cell? ⟨g,k*4+1,none⟩=some (.int .i64 p)) (q0:w.cell? ⟨b,off+p*3,none⟩=some (.int .i64 2)) (q1:w.cell? ⟨b,off+p*3+1,none⟩=some (.int .i64 q)) (q2:w.cell? ⟨b,off+p*3+2,none⟩=some (.int .i64 a)) (ha:a<2) (hq:q<4) (hvv:m.2.2.2.getD (k*2+a) 0=vv) :
  Calls Tryz.prog 76 #[.pointer (some ⟨g,0,none⟩),.int .i64 k] w fun e w'=>e=.returned (.int .i64 0)∧Blk w' g 91 (machR fv cs.1.val cs.2.1.val cs.2.2.val (m.1.set k ((p:Int)+1),m.2.1.set q vv,m.2.2.1,m.2.2.2))∧w.grownBy w' (some g):=by
 have hk3:(k:Int)<3:=by omega
 have hpn:(p:Int)<(n:Int):=by omega
 go_enter Tryz.func76,Tryz.ntmps76
 go_wp2_with fail
 refine wp_region_held_drew (S:=(fun w'=>w'.cell? ⟨g,k*4,none⟩=some (.slice (some ⟨b,off,none⟩) n c)∧w'.cell? ⟨g,k*4+1,none⟩=some (.int .i64 p)∧w'.cell? ⟨b,off+p*3,none⟩=some (.int .i64 2)∧w'.cell? ⟨b,off+p*3+1,none⟩=some (.int .i64 q)∧w'.cell? ⟨b,off+p*3+2,none⟩=some (.int .i64 a))) (by kernel_rfl) ⟨e0,e1,q0,q1,q2⟩ (fun hS0=>?_)
 refine tkm 0 12 (.pointer (some ⟨g,k*4,none⟩)) ?_
 refine tkm 1 13 (.pointer (some ⟨g,k*4,none⟩)) ?_
 refine tkm 2 14 (.pointer (some ⟨g,k*4,none⟩)) ?_
 refine tkm 3 15 (.slice (some ⟨b,off,none⟩) n c) ?_
 refine tkm 4 16 (.pointer (some ⟨g,k*4,none⟩)) ?_
 refine tkm 5 17 (.pointer (some ⟨g,k*4,none⟩)) ?_
 refine tkm 6 18 (.pointer (some ⟨g,k*4+1,none⟩)) ?_
 refine tkm 7 19 (.int .i64 p) ?_
 refine tkm 8 20 (.pointer (some ⟨b,off+p*3,none⟩)) ?_
 refine tkm 9 21 (.agg #[.int .i64 2,.int .i64 q,.int .i64 a]) ?_
 refine tkr 10 6 (fun K hK=>?_)
 have hal:Below w.drew.heap.size w.drew (w.drew.alloc (.cells #[.int .i64 0,.int .i64 0,.int .i64 0] 159)):=by go_grown
 go_simp
 refine hK.out _ _ ?_ (fun hS1=>?_)
 ·exact ⟨cells_kept hal _ _ hS0.1,cells_kept hal _ _ hS0.2.1,cells_kept hal _ _ hS0.2.2.1,cells_kept hal _ _ hS0.2.2.2.1,cells_kept hal _ _ hS0.2.2.2.2⟩
 clear hK
 try simp only [Act.put,tka,tkb,tkc]
 refine tkz 11 (fun K hK=>?_)
 have hal2:Below w.drew.heap.size w.drew (w.drew.alloc (.cells #[.int .i64 2,.int .i64 q,.int .i64 a] 159)):=by go_grown
 go_simp
 refine hK.out _ _ ?_ (fun hS2=>?_)
 ·exact ⟨cells_kept hal2 _ _ hS0.1,cells_kept hal2 _ _ hS0.2.1,cells_kept hal2 _ _ hS0.2.2.1,cells_kept hal2 _ _ hS0.2.2.2.1,cells_kept hal2 _ _ hS0.2.2.2.2⟩
 clear hK
 try simp only [Act.put,tka,tkb,tkc]
 refine wpAnyH_done (by kernel_rfl) ?_ _
 clear hal hal2 hS0 hS1 hS2
 have bx:Below w.heap.size w (w.alloc (.cells #[.int .i64 2,.int .i64 q,.int .i64 a] 159)).drew:=by go_grown
 have pX:Blk (w.alloc (.cells #[.int .i64 2,.int .i64 q,.int .i64 a] 159)).drew w.heap.size 159 [.int .i64 2,.int .i64 q,.int .i64 a]:=Blk.new w 159 [.int .i64 2,.int .i64 q,.int .i64 a]
 have hgl:=hM.lt
 replace hM:=hM.below bx
 replace e1:=cells_kept bx _ _ e1
 have gx:w.grownBy (w.alloc (.cells #[.int .i64 2,.int .i64 q,.int .i64 a] 159)).drew (some g):=grown_new bx
 clear bx e0 q0 q1 q2
 generalize hW2:(w.alloc (.cells #[.int .i64 2,.int .i64 q,.int .i64 a] 159)).drew=W2 at *
 clear hW2
 have hne:w.heap.size≠g:=by omega
 generalize w.heap.size=gX at *
 have f1:=hM.frozen (k*4+1)
 have hM3:=hM.set (k*4+1) (.int .i64 ((p:Int)+1))
 rw [mt_pc _ _ _ _ hL hk] at hM3
 have pX3:=pX.off ⟨g,k*4+1,none⟩ (.int .i64 ((p:Int)+1)) hne
 have g3:=grown_tr gx (grown_cell W2 g (k*4+1) (.int .i64 ((p:Int)+1)))
 have u0:=pX3.cell 0
 have u1:=pX3.cell 1
 have u2:=pX3.cell 2
 simp only [List.getElem?_cons_zero,List.getElem?_cons_succ] at u0 u1 u2
 have r1:(W2.setCell ⟨g,k*4+1,none⟩ (.int .i64 ((p:Int)+1))).cell? ⟨g,k*4+2+a,none⟩=some (.int .i64 vv):=(hM3.cell _).trans ((mc_reg _ _ _ _ hk ha).trans (congrArg (fun z=>some (Value.int .i64 z)) hvv))
 obtain ⟨old,r2⟩:∃ u,(W2.setCell ⟨g,k*4+1,none⟩ (.int .i64 ((p:Int)+1))).cell? ⟨g,12+q,none⟩=some u:=⟨_,(hM3.cell _).trans (mc_var _ _ _ _ hq)⟩
 have f_s:=hM3.frozen (12+q)
 have hM4:=hM3.set (12+q) (.int .i64 vv)
 rw [mt_var _ _ _ _ (hL.pc _ _) hq] at hM4
 simp only at hM4
 have g4:=grown_tr g3 (grown_cell (W2.setCell ⟨g,k*4+1,none⟩ (.int .i64 ((p:Int)+1))) g (12+q) (.int .i64 vv))
 have ha2:(a:Int)<2:=by omega
 have hq4:(q:Int)<4:=by omega

 have hpw:IntKind.i64.wrap ((p:Int)+1)=(p:Int)+1:=IntWalk.i64_in _ (by omega)
 clear hM gx pX
 clear hvv hM3 g3 pX3
 go_wp2_with fail
 generalize (W2.setCell ⟨g,k*4+1,none⟩ (.int .i64 ((p:Int)+1)))=W3 at *
 go_region
 go_wp2
 go_ret
 exact ⟨rfl,hM4,grown_drew g4⟩
theorem step_set (g k p b off n c:Nat) (a:Nat) (z:Int) (cs:Sl × Sl × Sl) (m:V4) (w:World) (hk:k<3) (hp:p<n) (hp6:p≤6) (hL:LenOk m) (hM:Blk w g 91 (machR fv cs.1.val cs.2.1.val cs.2.2.val m)) (hg:g≠b∨True)
  (e0:w.cell? ⟨g,k*4,none⟩=some (.slice (some ⟨b,off,none⟩) n c)) (e1:w.cell? ⟨g,k*4+1,none⟩=some (.int .i64 p)) (q0:w.cell? ⟨b,off+p*3,none⟩=some (.int .i64 3)) (q1:w.cell? ⟨b,off+p*3+1,none⟩=some (.int .i64 a)) (q2:w.cell? ⟨b,off+p*3+2,none⟩=some (.int .i64 z)) (ha:a<2) :
  Calls Tryz.prog 76 #[.pointer (some ⟨g,0,none⟩),.int .i64 k] w fun e w'=>e=.returned (.int .i64 0)∧Blk w' g 91 (machR fv cs.1.val cs.2.1.val cs.2.2.val (m.1.set k ((p:Int)+1),m.2.1,m.2.2.1,m.2.2.2.set (k*2+a) z))∧w.grownBy w' (some g):=by
 have hk3:(k:Int)<3:=by omega
 have hpn:(p:Int)<(n:Int):=by omega
 go_enter Tryz.func76,Tryz.ntmps76
 go_wp2_with fail
 refine wp_region_held_drew (S:=(fun w'=>w'.cell? ⟨g,k*4,none⟩=some (.slice (some ⟨b,off,none⟩) n c)∧w'.cell? ⟨g,k*4+1,none⟩=some (.int .i64 p)∧w'.cell? ⟨b,off+p*3,none⟩=some (.int .i64 3)∧w'.cell? ⟨b,off+p*3+1,none⟩=some (.int .i64 a)∧w'.cell? ⟨b,off+p*3+2,none⟩=some (.int .i64 z))) (by kernel_rfl) ⟨e0,e1,q0,q1,q2⟩ (fun hS0=>?_)
 refine tkm 0 12 (.pointer (some ⟨g,k*4,none⟩)) ?_
 refine tkm 1 13 (.pointer (some ⟨g,k*4,none⟩)) ?_
 refine tkm 2 14 (.pointer (some ⟨g,k*4,none⟩)) ?_
 refine tkm 3 15 (.slice (some ⟨b,off,none⟩) n c) ?_
 refine tkm 4 16 (.pointer (some ⟨g,k*4,none⟩)) ?_
 refine tkm 5 17 (.pointer (some ⟨g,k*4,none⟩)) ?_
 refine tkm 6 18 (.pointer (some ⟨g,k*4+1,none⟩)) ?_
 refine tkm 7 19 (.int .i64 p) ?_
 refine tkm 8 20 (.pointer (some ⟨b,off+p*3,none⟩)) ?_
 refine tkm 9 21 (.agg #[.int .i64 3,.int .i64 a,.int .i64 z]) ?_
 refine tkr 10 6 (fun K hK=>?_)
 have hal:Below w.drew.heap.size w.drew (w.drew.alloc (.cells #[.int .i64 0,.int .i64 0,.int .i64 0] 159)):=by go_grown
 go_simp
 refine hK.out _ _ ?_ (fun hS1=>?_)
 ·exact ⟨cells_kept hal _ _ hS0.1,cells_kept hal _ _ hS0.2.1,cells_kept hal _ _ hS0.2.2.1,cells_kept hal _ _ hS0.2.2.2.1,cells_kept hal _ _ hS0.2.2.2.2⟩
 clear hK
 try simp only [Act.put,tka,tkb,tkc]
 refine tkz 11 (fun K hK=>?_)
 have hal2:Below w.drew.heap.size w.drew (w.drew.alloc (.cells #[.int .i64 3,.int .i64 a,.int .i64 z] 159)):=by go_grown
 go_simp
 refine hK.out _ _ ?_ (fun hS2=>?_)
 ·exact ⟨cells_kept hal2 _ _ hS0.1,cells_kept hal2 _ _ hS0.2.1,cells_kept hal2 _ _ hS0.2.2.1,cells_kept hal2 _ _ hS0.2.2.2.1,cells_kept hal2 _ _ hS0.2.2.2.2⟩
 clear hK
 try simp only [Act.put,tka,tkb,tkc]
 refine wpAnyH_done (by kernel_rfl) ?_ _
 clear hal hal2 hS0 hS1 hS2
 have bx:Below w.heap.size w (w.alloc (.cells #[.int .i64 3,.int .i64 a,.int .i64 z] 159)).drew:=by go_grown
 have pX:Blk (w.alloc (.cells #[.int .i64 3,.int .i64 a,.int .i64 z] 159)).drew w.heap.size 159 [.int .i64 3,.int .i64 a,.int .i64 z]:=Blk.new w 159 [.int .i64 3,.int .i64 a,.int .i64 z]
 have hgl:=hM.lt
 replace hM:=hM.below bx
 replace e1:=cells_kept bx _ _ e1
 have gx:w.grownBy (w.alloc (.cells #[.int .i64 3,.int .i64 a,.int .i64 z] 159)).drew (some g):=grown_new bx
 clear bx e0 q0 q1 q2
 generalize hW2:(w.alloc (.cells #[.int .i64 3,.int .i64 a,.int .i64 z] 159)).drew=W2 at *
 clear hW2
 have hne:w.heap.size≠g:=by omega
 generalize w.heap.size=gX at *
 have f1:=hM.frozen (k*4+1)
 have hM3:=hM.set (k*4+1) (.int .i64 ((p:Int)+1))
 rw [mt_pc _ _ _ _ hL hk] at hM3
 have pX3:=pX.off ⟨g,k*4+1,none⟩ (.int .i64 ((p:Int)+1)) hne
 have g3:=grown_tr gx (grown_cell W2 g (k*4+1) (.int .i64 ((p:Int)+1)))
 have u0:=pX3.cell 0
 have u1:=pX3.cell 1
 have u2:=pX3.cell 2
 simp only [List.getElem?_cons_zero,List.getElem?_cons_succ] at u0 u1 u2
 obtain ⟨old,r2⟩:∃ u,(W2.setCell ⟨g,k*4+1,none⟩ (.int .i64 ((p:Int)+1))).cell? ⟨g,k*4+2+a,none⟩=some u:=⟨_,(hM3.cell _).trans (mc_reg _ _ _ _ hk ha)⟩
 have f_s:=hM3.frozen (k*4+2+a)
 have hM4:=hM3.set (k*4+2+a) (.int .i64 z)
 rw [mt_reg _ _ _ _ (hL.pc _ _) hk ha] at hM4
 simp only at hM4
 have g4:=grown_tr g3 (grown_cell (W2.setCell ⟨g,k*4+1,none⟩ (.int .i64 ((p:Int)+1))) g (k*4+2+a) (.int .i64 z))
 have ha2:(a:Int)<2:=by omega

 have hpw:IntKind.i64.wrap ((p:Int)+1)=(p:Int)+1:=IntWalk.i64_in _ (by omega)
 clear hM gx pX
 clear hM3 g3 pX3
 go_wp2_with fail
 generalize (W2.setCell ⟨g,k*4+1,none⟩ (.int .i64 ((p:Int)+1)))=W3 at *
 go_region
 go_wp2
 go_ret
 exact ⟨rfl,hM4,grown_drew g4⟩
theorem step_add (g k p b off n c:Nat) (a:Nat) (z vv t:Int) (cs:Sl × Sl × Sl) (m:V4) (w:World) (hk:k<3) (hp:p<n) (hp6:p≤6) (hL:LenOk m) (hM:Blk w g 91 (machR fv cs.1.val cs.2.1.val cs.2.2.val m)) (hg:g≠b∨True)
  (e0:w.cell? ⟨g,k*4,none⟩=some (.slice (some ⟨b,off,none⟩) n c)) (e1:w.cell? ⟨g,k*4+1,none⟩=some (.int .i64 p)) (q0:w.cell? ⟨b,off+p*3,none⟩=some (.int .i64 4)) (q1:w.cell? ⟨b,off+p*3+1,none⟩=some (.int .i64 a)) (q2:w.cell? ⟨b,off+p*3+2,none⟩=some (.int .i64 z)) (ha:a<2) (hvv:m.2.2.2.getD (k*2+a) 0=vv) (hz:0≤z∧z≤9) (hv9:0≤vv∧vv≤9) (ht:(vv+z) % 10=t) :
  Calls Tryz.prog 76 #[.pointer (some ⟨g,0,none⟩),.int .i64 k] w fun e w'=>e=.returned (.int .i64 0)∧Blk w' g 91 (machR fv cs.1.val cs.2.1.val cs.2.2.val (m.1.set k ((p:Int)+1),m.2.1,m.2.2.1,m.2.2.2.set (k*2+a) t))∧w.grownBy w' (some g):=by
 have hk3:(k:Int)<3:=by omega
 have hpn:(p:Int)<(n:Int):=by omega
 go_enter Tryz.func76,Tryz.ntmps76
 go_wp2_with fail
 refine wp_region_held_drew (S:=(fun w'=>w'.cell? ⟨g,k*4,none⟩=some (.slice (some ⟨b,off,none⟩) n c)∧w'.cell? ⟨g,k*4+1,none⟩=some (.int .i64 p)∧w'.cell? ⟨b,off+p*3,none⟩=some (.int .i64 4)∧w'.cell? ⟨b,off+p*3+1,none⟩=some (.int .i64 a)∧w'.cell? ⟨b,off+p*3+2,none⟩=some (.int .i64 z))) (by kernel_rfl) ⟨e0,e1,q0,q1,q2⟩ (fun hS0=>?_)
 refine tkm 0 12 (.pointer (some ⟨g,k*4,none⟩)) ?_
 refine tkm 1 13 (.pointer (some ⟨g,k*4,none⟩)) ?_
 refine tkm 2 14 (.pointer (some ⟨g,k*4,none⟩)) ?_
 refine tkm 3 15 (.slice (some ⟨b,off,none⟩) n c) ?_
 refine tkm 4 16 (.pointer (some ⟨g,k*4,none⟩)) ?_
 refine tkm 5 17 (.pointer (some ⟨g,k*4,none⟩)) ?_
 refine tkm 6 18 (.pointer (some ⟨g,k*4+1,none⟩)) ?_
 refine tkm 7 19 (.int .i64 p) ?_
 refine tkm 8 20 (.pointer (some ⟨b,off+p*3,none⟩)) ?_
 refine tkm 9 21 (.agg #[.int .i64 4,.int .i64 a,.int .i64 z]) ?_
 refine tkr 10 6 (fun K hK=>?_)
 have hal:Below w.drew.heap.size w.drew (w.drew.alloc (.cells #[.int .i64 0,.int .i64 0,.int .i64 0] 159)):=by go_grown
 go_simp
 refine hK.out _ _ ?_ (fun hS1=>?_)
 ·exact ⟨cells_kept hal _ _ hS0.1,cells_kept hal _ _ hS0.2.1,cells_kept hal _ _ hS0.2.2.1,cells_kept hal _ _ hS0.2.2.2.1,cells_kept hal _ _ hS0.2.2.2.2⟩
 clear hK
 try simp only [Act.put,tka,tkb,tkc]
 refine tkz 11 (fun K hK=>?_)
 have hal2:Below w.drew.heap.size w.drew (w.drew.alloc (.cells #[.int .i64 4,.int .i64 a,.int .i64 z] 159)):=by go_grown
 go_simp
 refine hK.out _ _ ?_ (fun hS2=>?_)
 ·exact ⟨cells_kept hal2 _ _ hS0.1,cells_kept hal2 _ _ hS0.2.1,cells_kept hal2 _ _ hS0.2.2.1,cells_kept hal2 _ _ hS0.2.2.2.1,cells_kept hal2 _ _ hS0.2.2.2.2⟩
 clear hK
 try simp only [Act.put,tka,tkb,tkc]
 refine wpAnyH_done (by kernel_rfl) ?_ _
 clear hal hal2 hS0 hS1 hS2
 have bx:Below w.heap.size w (w.alloc (.cells #[.int .i64 4,.int .i64 a,.int .i64 z] 159)).drew:=by go_grown
 have pX:Blk (w.alloc (.cells #[.int .i64 4,.int .i64 a,.int .i64 z] 159)).drew w.heap.size 159 [.int .i64 4,.int .i64 a,.int .i64 z]:=Blk.new w 159 [.int .i64 4,.int .i64 a,.int .i64 z]
 have hgl:=hM.lt
 replace hM:=hM.below bx
 replace e1:=cells_kept bx _ _ e1
 have gx:w.grownBy (w.alloc (.cells #[.int .i64 4,.int .i64 a,.int .i64 z] 159)).drew (some g):=grown_new bx
 clear bx e0 q0 q1 q2
 generalize hW2:(w.alloc (.cells #[.int .i64 4,.int .i64 a,.int .i64 z] 159)).drew=W2 at *
 clear hW2
 have hne:w.heap.size≠g:=by omega
 generalize w.heap.size=gX at *
 have f1:=hM.frozen (k*4+1)
 have hM3:=hM.set (k*4+1) (.int .i64 ((p:Int)+1))
 rw [mt_pc _ _ _ _ hL hk] at hM3
 have pX3:=pX.off ⟨g,k*4+1,none⟩ (.int .i64 ((p:Int)+1)) hne
 have g3:=grown_tr gx (grown_cell W2 g (k*4+1) (.int .i64 ((p:Int)+1)))
 have u0:=pX3.cell 0
 have u1:=pX3.cell 1
 have u2:=pX3.cell 2
 simp only [List.getElem?_cons_zero,List.getElem?_cons_succ] at u0 u1 u2
 have r1:(W2.setCell ⟨g,k*4+1,none⟩ (.int .i64 ((p:Int)+1))).cell? ⟨g,k*4+2+a,none⟩=some (.int .i64 vv):=(hM3.cell _).trans ((mc_reg _ _ _ _ hk ha).trans (congrArg (fun z=>some (Value.int .i64 z)) hvv))
 have f_s:=hM3.frozen (k*4+2+a)
 have hM4:=hM3.set (k*4+2+a) (.int .i64 t)
 rw [mt_reg _ _ _ _ (hL.pc _ _) hk ha] at hM4
 simp only at hM4
 have g4:=grown_tr g3 (grown_cell (W2.setCell ⟨g,k*4+1,none⟩ (.int .i64 ((p:Int)+1))) g (k*4+2+a) (.int .i64 t))
 have ha2:(a:Int)<2:=by omega
 have hw1:IntKind.i64.wrap (vv+z)=vv+z:=IntWalk.i64_in _ (by omega)
 have hw2:(vv+z).tmod 10=t:=by rw [← ht,Int.tmod_eq_emod_of_nonneg (by omega)]
 have hw3:IntKind.i64.wrap t=t:=IntWalk.i64_in _ (by omega)

 have hpw:IntKind.i64.wrap ((p:Int)+1)=(p:Int)+1:=IntWalk.i64_in _ (by omega)
 clear hM gx pX
 clear hvv hM3 g3 pX3
 go_wp2_with fail
 generalize (W2.setCell ⟨g,k*4+1,none⟩ (.int .i64 ((p:Int)+1)))=W3 at *
 go_region
 go_wp2
 go_ret
 exact ⟨rfl,hM4,grown_drew g4⟩
theorem step_lock (g k p b off n c:Nat) (a:Nat) (z:Int) (cs:Sl × Sl × Sl) (m:V4) (w:World) (hk:k<3) (hp:p<n) (hp6:p≤6) (hL:LenOk m) (hM:Blk w g 91 (machR fv cs.1.val cs.2.1.val cs.2.2.val m)) (hg:g≠b∨True)
  (e0:w.cell? ⟨g,k*4,none⟩=some (.slice (some ⟨b,off,none⟩) n c)) (e1:w.cell? ⟨g,k*4+1,none⟩=some (.int .i64 p)) (q0:w.cell? ⟨b,off+p*3,none⟩=some (.int .i64 5)) (q1:w.cell? ⟨b,off+p*3+1,none⟩=some (.int .i64 a)) (q2:w.cell? ⟨b,off+p*3+2,none⟩=some (.int .i64 z)) (ha:a<2) :
  Calls Tryz.prog 76 #[.pointer (some ⟨g,0,none⟩),.int .i64 k] w fun e w'=>e=.returned (.int .i64 0)∧Blk w' g 91 (machR fv cs.1.val cs.2.1.val cs.2.2.val (m.1.set k ((p:Int)+1),m.2.1,m.2.2.1.set a ((k:Int)+1),m.2.2.2))∧w.grownBy w' (some g):=by
 have hk3:(k:Int)<3:=by omega
 have hpn:(p:Int)<(n:Int):=by omega
 go_enter Tryz.func76,Tryz.ntmps76
 go_wp2_with fail
 refine wp_region_held_drew (S:=(fun w'=>w'.cell? ⟨g,k*4,none⟩=some (.slice (some ⟨b,off,none⟩) n c)∧w'.cell? ⟨g,k*4+1,none⟩=some (.int .i64 p)∧w'.cell? ⟨b,off+p*3,none⟩=some (.int .i64 5)∧w'.cell? ⟨b,off+p*3+1,none⟩=some (.int .i64 a)∧w'.cell? ⟨b,off+p*3+2,none⟩=some (.int .i64 z))) (by kernel_rfl) ⟨e0,e1,q0,q1,q2⟩ (fun hS0=>?_)
 refine tkm 0 12 (.pointer (some ⟨g,k*4,none⟩)) ?_
 refine tkm 1 13 (.pointer (some ⟨g,k*4,none⟩)) ?_
 refine tkm 2 14 (.pointer (some ⟨g,k*4,none⟩)) ?_
 refine tkm 3 15 (.slice (some ⟨b,off,none⟩) n c) ?_
 refine tkm 4 16 (.pointer (some ⟨g,k*4,none⟩)) ?_
 refine tkm 5 17 (.pointer (some ⟨g,k*4,none⟩)) ?_
 refine tkm 6 18 (.pointer (some ⟨g,k*4+1,none⟩)) ?_
 refine tkm 7 19 (.int .i64 p) ?_
 refine tkm 8 20 (.pointer (some ⟨b,off+p*3,none⟩)) ?_
 refine tkm 9 21 (.agg #[.int .i64 5,.int .i64 a,.int .i64 z]) ?_
 refine tkr 10 6 (fun K hK=>?_)
 have hal:Below w.drew.heap.size w.drew (w.drew.alloc (.cells #[.int .i64 0,.int .i64 0,.int .i64 0] 159)):=by go_grown
 go_simp
 refine hK.out _ _ ?_ (fun hS1=>?_)
 ·exact ⟨cells_kept hal _ _ hS0.1,cells_kept hal _ _ hS0.2.1,cells_kept hal _ _ hS0.2.2.1,cells_kept hal _ _ hS0.2.2.2.1,cells_kept hal _ _ hS0.2.2.2.2⟩
 clear hK
 try simp only [Act.put,tka,tkb,tkc]
 refine tkz 11 (fun K hK=>?_)
 have hal2:Below w.drew.heap.size w.drew (w.drew.alloc (.cells #[.int .i64 5,.int .i64 a,.int .i64 z] 159)):=by go_grown
 go_simp
 refine hK.out _ _ ?_ (fun hS2=>?_)
 ·exact ⟨cells_kept hal2 _ _ hS0.1,cells_kept hal2 _ _ hS0.2.1,cells_kept hal2 _ _ hS0.2.2.1,cells_kept hal2 _ _ hS0.2.2.2.1,cells_kept hal2 _ _ hS0.2.2.2.2⟩
 clear hK
 try simp only [Act.put,tka,tkb,tkc]
 refine wpAnyH_done (by kernel_rfl) ?_ _
 clear hal hal2 hS0 hS1 hS2
 have bx:Below w.heap.size w (w.alloc (.cells #[.int .i64 5,.int .i64 a,.int .i64 z] 159)).drew:=by go_grown
 have pX:Blk (w.alloc (.cells #[.int .i64 5,.int .i64 a,.int .i64 z] 159)).drew w.heap.size 159 [.int .i64 5,.int .i64 a,.int .i64 z]:=Blk.new w 159 [.int .i64 5,.int .i64 a,.int .i64 z]
 have hgl:=hM.lt
 replace hM:=hM.below bx
 replace e1:=cells_kept bx _ _ e1
 have gx:w.grownBy (w.alloc (.cells #[.int .i64 5,.int .i64 a,.int .i64 z] 159)).drew (some g):=grown_new bx
 clear bx e0 q0 q1 q2
 generalize hW2:(w.alloc (.cells #[.int .i64 5,.int .i64 a,.int .i64 z] 159)).drew=W2 at *
 clear hW2
 have hne:w.heap.size≠g:=by omega
 generalize w.heap.size=gX at *
 have f1:=hM.frozen (k*4+1)
 have hM3:=hM.set (k*4+1) (.int .i64 ((p:Int)+1))
 rw [mt_pc _ _ _ _ hL hk] at hM3
 have pX3:=pX.off ⟨g,k*4+1,none⟩ (.int .i64 ((p:Int)+1)) hne
 have g3:=grown_tr gx (grown_cell W2 g (k*4+1) (.int .i64 ((p:Int)+1)))
 have u0:=pX3.cell 0
 have u1:=pX3.cell 1
 have u2:=pX3.cell 2
 simp only [List.getElem?_cons_zero,List.getElem?_cons_succ] at u0 u1 u2
 obtain ⟨old,r2⟩:∃ u,(W2.setCell ⟨g,k*4+1,none⟩ (.int .i64 ((p:Int)+1))).cell? ⟨g,16+a,none⟩=some u:=⟨_,(hM3.cell _).trans (mc_held _ _ _ _ ha)⟩
 have f_s:=hM3.frozen (16+a)
 have hM4:=hM3.set (16+a) (.int .i64 ((k:Int)+1))
 rw [mt_held _ _ _ _ (hL.pc _ _) ha] at hM4
 simp only at hM4
 have g4:=grown_tr g3 (grown_cell (W2.setCell ⟨g,k*4+1,none⟩ (.int .i64 ((p:Int)+1))) g (16+a) (.int .i64 ((k:Int)+1)))
 have ha2:(a:Int)<2:=by omega
 have hkw:IntKind.i64.wrap ((k:Int)+1)=(k:Int)+1:=IntWalk.i64_in _ (by omega)

 have hpw:IntKind.i64.wrap ((p:Int)+1)=(p:Int)+1:=IntWalk.i64_in _ (by omega)
 clear hM gx pX
 clear hM3 g3 pX3
 go_wp2_with fail
 generalize (W2.setCell ⟨g,k*4+1,none⟩ (.int .i64 ((p:Int)+1)))=W3 at *
 go_region
 go_wp2
 go_ret
 exact ⟨rfl,hM4,grown_drew g4⟩
theorem step_unlock_yes (g k p b off n c:Nat) (a:Nat) (z:Int) (cs:Sl × Sl × Sl) (m:V4) (w:World) (hk:k<3) (hp:p<n) (hp6:p≤6) (hL:LenOk m) (hM:Blk w g 91 (machR fv cs.1.val cs.2.1.val cs.2.2.val m)) (hg:g≠b∨True)
  (e0:w.cell? ⟨g,k*4,none⟩=some (.slice (some ⟨b,off,none⟩) n c)) (e1:w.cell? ⟨g,k*4+1,none⟩=some (.int .i64 p)) (q0:w.cell? ⟨b,off+p*3,none⟩=some (.int .i64 6)) (q1:w.cell? ⟨b,off+p*3+1,none⟩=some (.int .i64 a)) (q2:w.cell? ⟨b,off+p*3+2,none⟩=some (.int .i64 z)) (ha:a<2) (hv:m.2.2.1.getD a 0=(k:Int)+1) :
  Calls Tryz.prog 76 #[.pointer (some ⟨g,0,none⟩),.int .i64 k] w fun e w'=>e=.returned (.int .i64 0)∧Blk w' g 91 (machR fv cs.1.val cs.2.1.val cs.2.2.val (m.1.set k ((p:Int)+1),m.2.1,m.2.2.1.set a 0,m.2.2.2))∧w.grownBy w' (some g):=by
 have hk3:(k:Int)<3:=by omega
 have hpn:(p:Int)<(n:Int):=by omega
 go_enter Tryz.func76,Tryz.ntmps76
 go_wp2_with fail
 refine wp_region_held_drew (S:=(fun w'=>w'.cell? ⟨g,k*4,none⟩=some (.slice (some ⟨b,off,none⟩) n c)∧w'.cell? ⟨g,k*4+1,none⟩=some (.int .i64 p)∧w'.cell? ⟨b,off+p*3,none⟩=some (.int .i64 6)∧w'.cell? ⟨b,off+p*3+1,none⟩=some (.int .i64 a)∧w'.cell? ⟨b,off+p*3+2,none⟩=some (.int .i64 z))) (by kernel_rfl) ⟨e0,e1,q0,q1,q2⟩ (fun hS0=>?_)
 refine tkm 0 12 (.pointer (some ⟨g,k*4,none⟩)) ?_
 refine tkm 1 13 (.pointer (some ⟨g,k*4,none⟩)) ?_
 refine tkm 2 14 (.pointer (some ⟨g,k*4,none⟩)) ?_
 refine tkm 3 15 (.slice (some ⟨b,off,none⟩) n c) ?_
 refine tkm 4 16 (.pointer (some ⟨g,k*4,none⟩)) ?_
 refine tkm 5 17 (.pointer (some ⟨g,k*4,none⟩)) ?_
 refine tkm 6 18 (.pointer (some ⟨g,k*4+1,none⟩)) ?_
 refine tkm 7 19 (.int .i64 p) ?_
 refine tkm 8 20 (.pointer (some ⟨b,off+p*3,none⟩)) ?_
 refine tkm 9 21 (.agg #[.int .i64 6,.int .i64 a,.int .i64 z]) ?_
 refine tkr 10 6 (fun K hK=>?_)
 have hal:Below w.drew.heap.size w.drew (w.drew.alloc (.cells #[.int .i64 0,.int .i64 0,.int .i64 0] 159)):=by go_grown
 go_simp
 refine hK.out _ _ ?_ (fun hS1=>?_)
 ·exact ⟨cells_kept hal _ _ hS0.1,cells_kept hal _ _ hS0.2.1,cells_kept hal _ _ hS0.2.2.1,cells_kept hal _ _ hS0.2.2.2.1,cells_kept hal _ _ hS0.2.2.2.2⟩
 clear hK
 try simp only [Act.put,tka,tkb,tkc]
 refine tkz 11 (fun K hK=>?_)
 have hal2:Below w.drew.heap.size w.drew (w.drew.alloc (.cells #[.int .i64 6,.int .i64 a,.int .i64 z] 159)):=by go_grown
 go_simp
 refine hK.out _ _ ?_ (fun hS2=>?_)
 ·exact ⟨cells_kept hal2 _ _ hS0.1,cells_kept hal2 _ _ hS0.2.1,cells_kept hal2 _ _ hS0.2.2.1,cells_kept hal2 _ _ hS0.2.2.2.1,cells_kept hal2 _ _ hS0.2.2.2.2⟩
 clear hK
 try simp only [Act.put,tka,tkb,tkc]
 refine wpAnyH_done (by kernel_rfl) ?_ _
 clear hal hal2 hS0 hS1 hS2
 have bx:Below w.heap.size w (w.alloc (.cells #[.int .i64 6,.int .i64 a,.int .i64 z] 159)).drew:=by go_grown
 have pX:Blk (w.alloc (.cells #[.int .i64 6,.int .i64 a,.int .i64 z] 159)).drew w.heap.size 159 [.int .i64 6,.int .i64 a,.int .i64 z]:=Blk.new w 159 [.int .i64 6,.int .i64 a,.int .i64 z]
 have hgl:=hM.lt
 replace hM:=hM.below bx
 replace e1:=cells_kept bx _ _ e1
 have gx:w.grownBy (w.alloc (.cells #[.int .i64 6,.int .i64 a,.int .i64 z] 159)).drew (some g):=grown_new bx
 clear bx e0 q0 q1 q2
 generalize hW2:(w.alloc (.cells #[.int .i64 6,.int .i64 a,.int .i64 z] 159)).drew=W2 at *
 clear hW2
 have hne:w.heap.size≠g:=by omega
 generalize w.heap.size=gX at *
 have f1:=hM.frozen (k*4+1)
 have hM3:=hM.set (k*4+1) (.int .i64 ((p:Int)+1))
 rw [mt_pc _ _ _ _ hL hk] at hM3
 have pX3:=pX.off ⟨g,k*4+1,none⟩ (.int .i64 ((p:Int)+1)) hne
 have g3:=grown_tr gx (grown_cell W2 g (k*4+1) (.int .i64 ((p:Int)+1)))
 have u0:=pX3.cell 0
 have u1:=pX3.cell 1
 have u2:=pX3.cell 2
 simp only [List.getElem?_cons_zero,List.getElem?_cons_succ] at u0 u1 u2

 have hpw:IntKind.i64.wrap ((p:Int)+1)=(p:Int)+1:=IntWalk.i64_in _ (by omega)
 clear hM gx pX
 have kU:=unlock_yes g k a cs (m.1.set k ((p:Int)+1),m.2) (W2.setCell ⟨g,k*4+1,none⟩ (.int .i64 ((p:Int)+1))) hk ha (hL.pc _ _) hM3 hv
 clear hv
 go_wp2_with fail
 generalize (W2.setCell ⟨g,k*4+1,none⟩ (.int .i64 ((p:Int)+1)))=W3 at *
 refine kU.mono ?_
 rintro e w4 ⟨rfl,hM4,g4⟩
 go_wp2
 go_ret
 exact ⟨rfl,hM4,grown_tr g3 g4⟩
theorem step_unlock_no (g k p b off n c:Nat) (a:Nat) (z:Int) (cs:Sl × Sl × Sl) (m:V4) (w:World) (hk:k<3) (hp:p<n) (hp6:p≤6) (hL:LenOk m) (hM:Blk w g 91 (machR fv cs.1.val cs.2.1.val cs.2.2.val m)) (hg:g≠b∨True)
  (e0:w.cell? ⟨g,k*4,none⟩=some (.slice (some ⟨b,off,none⟩) n c)) (e1:w.cell? ⟨g,k*4+1,none⟩=some (.int .i64 p)) (q0:w.cell? ⟨b,off+p*3,none⟩=some (.int .i64 6)) (q1:w.cell? ⟨b,off+p*3+1,none⟩=some (.int .i64 a)) (q2:w.cell? ⟨b,off+p*3+2,none⟩=some (.int .i64 z)) (ha:a<2) (hv:m.2.2.1.getD a 0≠(k:Int)+1) :
  Calls Tryz.prog 76 #[.pointer (some ⟨g,0,none⟩),.int .i64 k] w fun e w'=>e=.returned (.int .i64 13)∧Blk w' g 91 (machR fv cs.1.val cs.2.1.val cs.2.2.val (m.1.set k ((p:Int)+1),m.2))∧w.grownBy w' (some g):=by
 have hk3:(k:Int)<3:=by omega
 have hpn:(p:Int)<(n:Int):=by omega
 go_enter Tryz.func76,Tryz.ntmps76
 go_wp2_with fail
 refine wp_region_held_drew (S:=(fun w'=>w'.cell? ⟨g,k*4,none⟩=some (.slice (some ⟨b,off,none⟩) n c)∧w'.cell? ⟨g,k*4+1,none⟩=some (.int .i64 p)∧w'.cell? ⟨b,off+p*3,none⟩=some (.int .i64 6)∧w'.cell? ⟨b,off+p*3+1,none⟩=some (.int .i64 a)∧w'.cell? ⟨b,off+p*3+2,none⟩=some (.int .i64 z))) (by kernel_rfl) ⟨e0,e1,q0,q1,q2⟩ (fun hS0=>?_)
 refine tkm 0 12 (.pointer (some ⟨g,k*4,none⟩)) ?_
 refine tkm 1 13 (.pointer (some ⟨g,k*4,none⟩)) ?_
 refine tkm 2 14 (.pointer (some ⟨g,k*4,none⟩)) ?_
 refine tkm 3 15 (.slice (some ⟨b,off,none⟩) n c) ?_
 refine tkm 4 16 (.pointer (some ⟨g,k*4,none⟩)) ?_
 refine tkm 5 17 (.pointer (some ⟨g,k*4,none⟩)) ?_
 refine tkm 6 18 (.pointer (some ⟨g,k*4+1,none⟩)) ?_
 refine tkm 7 19 (.int .i64 p) ?_
 refine tkm 8 20 (.pointer (some ⟨b,off+p*3,none⟩)) ?_
 refine tkm 9 21 (.agg #[.int .i64 6,.int .i64 a,.int .i64 z]) ?_
 refine tkr 10 6 (fun K hK=>?_)
 have hal:Below w.drew.heap.size w.drew (w.drew.alloc (.cells #[.int .i64 0,.int .i64 0,.int .i64 0] 159)):=by go_grown
 go_simp
 refine hK.out _ _ ?_ (fun hS1=>?_)
 ·exact ⟨cells_kept hal _ _ hS0.1,cells_kept hal _ _ hS0.2.1,cells_kept hal _ _ hS0.2.2.1,cells_kept hal _ _ hS0.2.2.2.1,cells_kept hal _ _ hS0.2.2.2.2⟩
 clear hK
 try simp only [Act.put,tka,tkb,tkc]
 refine tkz 11 (fun K hK=>?_)
 have hal2:Below w.drew.heap.size w.drew (w.drew.alloc (.cells #[.int .i64 6,.int .i64 a,.int .i64 z] 159)):=by go_grown
 go_simp
 refine hK.out _ _ ?_ (fun hS2=>?_)
 ·exact ⟨cells_kept hal2 _ _ hS0.1,cells_kept hal2 _ _ hS0.2.1,cells_kept hal2 _ _ hS0.2.2.1,cells_kept hal2 _ _ hS0.2.2.2.1,cells_kept hal2 _ _ hS0.2.2.2.2⟩
 clear hK
 try simp only [Act.put,tka,tkb,tkc]
 refine wpAnyH_done (by kernel_rfl) ?_ _
 clear hal hal2 hS0 hS1 hS2
 have bx:Below w.heap.size w (w.alloc (.cells #[.int .i64 6,.int .i64 a,.int .i64 z] 159)).drew:=by go_grown
 have pX:Blk (w.alloc (.cells #[.int .i64 6,.int .i64 a,.int .i64 z] 159)).drew w.heap.size 159 [.int .i64 6,.int .i64 a,.int .i64 z]:=Blk.new w 159 [.int .i64 6,.int .i64 a,.int .i64 z]
 have hgl:=hM.lt
 replace hM:=hM.below bx
 replace e1:=cells_kept bx _ _ e1
 have gx:w.grownBy (w.alloc (.cells #[.int .i64 6,.int .i64 a,.int .i64 z] 159)).drew (some g):=grown_new bx
 clear bx e0 q0 q1 q2
 generalize hW2:(w.alloc (.cells #[.int .i64 6,.int .i64 a,.int .i64 z] 159)).drew=W2 at *
 clear hW2
 have hne:w.heap.size≠g:=by omega
 generalize w.heap.size=gX at *
 have f1:=hM.frozen (k*4+1)
 have hM3:=hM.set (k*4+1) (.int .i64 ((p:Int)+1))
 rw [mt_pc _ _ _ _ hL hk] at hM3
 have pX3:=pX.off ⟨g,k*4+1,none⟩ (.int .i64 ((p:Int)+1)) hne
 have g3:=grown_tr gx (grown_cell W2 g (k*4+1) (.int .i64 ((p:Int)+1)))
 have u0:=pX3.cell 0
 have u1:=pX3.cell 1
 have u2:=pX3.cell 2
 simp only [List.getElem?_cons_zero,List.getElem?_cons_succ] at u0 u1 u2

 have hpw:IntKind.i64.wrap ((p:Int)+1)=(p:Int)+1:=IntWalk.i64_in _ (by omega)
 clear hM gx pX
 have kU:=unlock_no g k a cs (m.1.set k ((p:Int)+1),m.2) (W2.setCell ⟨g,k*4+1,none⟩ (.int .i64 ((p:Int)+1))) hk ha hM3 hv
 clear hv
 go_wp2_with fail
 generalize (W2.setCell ⟨g,k*4+1,none⟩ (.int .i64 ((p:Int)+1)))=W3 at *
 refine kU.mono ?_
 rintro e w4 ⟨rfl,rfl⟩
 go_wp2
 go_ret
 exact ⟨rfl,hM3,g3⟩
theorem step_stay (g k p b off n c:Nat) (a:Nat) (z:Int) (cs:Sl × Sl × Sl) (m:V4) (w:World) (hk:k<3) (hp:p<n) (hp6:p≤6) (hL:LenOk m) (hM:Blk w g 91 (machR fv cs.1.val cs.2.1.val cs.2.2.val m)) (hg:g≠b∨True)
  (e0:w.cell? ⟨g,k*4,none⟩=some (.slice (some ⟨b,off,none⟩) n c)) (e1:w.cell? ⟨g,k*4+1,none⟩=some (.int .i64 p)) (q0:w.cell? ⟨b,off+p*3,none⟩=some (.int .i64 7)) (q1:w.cell? ⟨b,off+p*3+1,none⟩=some (.int .i64 a)) (q2:w.cell? ⟨b,off+p*3+2,none⟩=some (.int .i64 z)) (ha:a<2) (hvv:m.2.2.2.getD (k*2+a) 0=0) :
  Calls Tryz.prog 76 #[.pointer (some ⟨g,0,none⟩),.int .i64 k] w fun e w'=>e=.returned (.int .i64 0)∧Blk w' g 91 (machR fv cs.1.val cs.2.1.val cs.2.2.val (m.1.set k ((p:Int)+1),m.2))∧w.grownBy w' (some g):=by
 have hk3:(k:Int)<3:=by omega
 have hpn:(p:Int)<(n:Int):=by omega
 go_enter Tryz.func76,Tryz.ntmps76
 go_wp2_with fail
 refine wp_region_held_drew (S:=(fun w'=>w'.cell? ⟨g,k*4,none⟩=some (.slice (some ⟨b,off,none⟩) n c)∧w'.cell? ⟨g,k*4+1,none⟩=some (.int .i64 p)∧w'.cell? ⟨b,off+p*3,none⟩=some (.int .i64 7)∧w'.cell? ⟨b,off+p*3+1,none⟩=some (.int .i64 a)∧w'.cell? ⟨b,off+p*3+2,none⟩=some (.int .i64 z))) (by kernel_rfl) ⟨e0,e1,q0,q1,q2⟩ (fun hS0=>?_)
 refine tkm 0 12 (.pointer (some ⟨g,k*4,none⟩)) ?_
 refine tkm 1 13 (.pointer (some ⟨g,k*4,none⟩)) ?_
 refine tkm 2 14 (.pointer (some ⟨g,k*4,none⟩)) ?_
 refine tkm 3 15 (.slice (some ⟨b,off,none⟩) n c) ?_
 refine tkm 4 16 (.pointer (some ⟨g,k*4,none⟩)) ?_
 refine tkm 5 17 (.pointer (some ⟨g,k*4,none⟩)) ?_
 refine tkm 6 18 (.pointer (some ⟨g,k*4+1,none⟩)) ?_
 refine tkm 7 19 (.int .i64 p) ?_
 refine tkm 8 20 (.pointer (some ⟨b,off+p*3,none⟩)) ?_
 refine tkm 9 21 (.agg #[.int .i64 7,.int .i64 a,.int .i64 z]) ?_
 refine tkr 10 6 (fun K hK=>?_)
 have hal:Below w.drew.heap.size w.drew (w.drew.alloc (.cells #[.int .i64 0,.int .i64 0,.int .i64 0] 159)):=by go_grown
 go_simp
 refine hK.out _ _ ?_ (fun hS1=>?_)
 ·exact ⟨cells_kept hal _ _ hS0.1,cells_kept hal _ _ hS0.2.1,cells_kept hal _ _ hS0.2.2.1,cells_kept hal _ _ hS0.2.2.2.1,cells_kept hal _ _ hS0.2.2.2.2⟩
 clear hK
 try simp only [Act.put,tka,tkb,tkc]
 refine tkz 11 (fun K hK=>?_)
 have hal2:Below w.drew.heap.size w.drew (w.drew.alloc (.cells #[.int .i64 7,.int .i64 a,.int .i64 z] 159)):=by go_grown
 go_simp
 refine hK.out _ _ ?_ (fun hS2=>?_)
 ·exact ⟨cells_kept hal2 _ _ hS0.1,cells_kept hal2 _ _ hS0.2.1,cells_kept hal2 _ _ hS0.2.2.1,cells_kept hal2 _ _ hS0.2.2.2.1,cells_kept hal2 _ _ hS0.2.2.2.2⟩
 clear hK
 try simp only [Act.put,tka,tkb,tkc]
 refine wpAnyH_done (by kernel_rfl) ?_ _
 clear hal hal2 hS0 hS1 hS2
 have bx:Below w.heap.size w (w.alloc (.cells #[.int .i64 7,.int .i64 a,.int .i64 z] 159)).drew:=by go_grown
 have pX:Blk (w.alloc (.cells #[.int .i64 7,.int .i64 a,.int .i64 z] 159)).drew w.heap.size 159 [.int .i64 7,.int .i64 a,.int .i64 z]:=Blk.new w 159 [.int .i64 7,.int .i64 a,.int .i64 z]
 have hgl:=hM.lt
 replace hM:=hM.below bx
 replace e1:=cells_kept bx _ _ e1
 have gx:w.grownBy (w.alloc (.cells #[.int .i64 7,.int .i64 a,.int .i64 z] 159)).drew (some g):=grown_new bx
 clear bx e0 q0 q1 q2
 generalize hW2:(w.alloc (.cells #[.int .i64 7,.int .i64 a,.int .i64 z] 159)).drew=W2 at *
 clear hW2
 have hne:w.heap.size≠g:=by omega
 generalize w.heap.size=gX at *
 have f1:=hM.frozen (k*4+1)
 have hM3:=hM.set (k*4+1) (.int .i64 ((p:Int)+1))
 rw [mt_pc _ _ _ _ hL hk] at hM3
 have pX3:=pX.off ⟨g,k*4+1,none⟩ (.int .i64 ((p:Int)+1)) hne
 have g3:=grown_tr gx (grown_cell W2 g (k*4+1) (.int .i64 ((p:Int)+1)))
 have u0:=pX3.cell 0
 have u1:=pX3.cell 1
 have u2:=pX3.cell 2
 simp only [List.getElem?_cons_zero,List.getElem?_cons_succ] at u0 u1 u2
 have r1:(W2.setCell ⟨g,k*4+1,none⟩ (.int .i64 ((p:Int)+1))).cell? ⟨g,k*4+2+a,none⟩=some (.int .i64 0):=(hM3.cell _).trans ((mc_reg _ _ _ _ hk ha).trans (congrArg (fun z=>some (Value.int .i64 z)) hvv))
 have ha2:(a:Int)<2:=by omega

 have hpw:IntKind.i64.wrap ((p:Int)+1)=(p:Int)+1:=IntWalk.i64_in _ (by omega)
 clear hM gx pX
 clear hvv pX3
 go_wp2_with fail
 generalize (W2.setCell ⟨g,k*4+1,none⟩ (.int .i64 ((p:Int)+1)))=W3 at *
 go_quiet (fail)
 go_wp2
 go_ret
 exact ⟨rfl,hM3,grown_drewN g3 _⟩
theorem step_jump (g k p b off n c:Nat) (a:Nat) (z vv:Int) (cs:Sl × Sl × Sl) (m:V4) (w:World) (hk:k<3) (hp:p<n) (hp6:p≤6) (hL:LenOk m) (hM:Blk w g 91 (machR fv cs.1.val cs.2.1.val cs.2.2.val m)) (hg:g≠b∨True)
  (e0:w.cell? ⟨g,k*4,none⟩=some (.slice (some ⟨b,off,none⟩) n c)) (e1:w.cell? ⟨g,k*4+1,none⟩=some (.int .i64 p)) (q0:w.cell? ⟨b,off+p*3,none⟩=some (.int .i64 7)) (q1:w.cell? ⟨b,off+p*3+1,none⟩=some (.int .i64 a)) (q2:w.cell? ⟨b,off+p*3+2,none⟩=some (.int .i64 z)) (ha:a<2) (hvv:m.2.2.2.getD (k*2+a) 0=vv) (hv0:vv≠0) :
  Calls Tryz.prog 76 #[.pointer (some ⟨g,0,none⟩),.int .i64 k] w fun e w'=>e=.returned (.int .i64 0)∧Blk w' g 91 (machR fv cs.1.val cs.2.1.val cs.2.2.val (m.1.set k z,m.2))∧w.grownBy w' (some g):=by
 have hk3:(k:Int)<3:=by omega
 have hpn:(p:Int)<(n:Int):=by omega
 go_enter Tryz.func76,Tryz.ntmps76
 go_wp2_with fail
 refine wp_region_held_drew (S:=(fun w'=>w'.cell? ⟨g,k*4,none⟩=some (.slice (some ⟨b,off,none⟩) n c)∧w'.cell? ⟨g,k*4+1,none⟩=some (.int .i64 p)∧w'.cell? ⟨b,off+p*3,none⟩=some (.int .i64 7)∧w'.cell? ⟨b,off+p*3+1,none⟩=some (.int .i64 a)∧w'.cell? ⟨b,off+p*3+2,none⟩=some (.int .i64 z))) (by kernel_rfl) ⟨e0,e1,q0,q1,q2⟩ (fun hS0=>?_)
 refine tkm 0 12 (.pointer (some ⟨g,k*4,none⟩)) ?_
 refine tkm 1 13 (.pointer (some ⟨g,k*4,none⟩)) ?_
 refine tkm 2 14 (.pointer (some ⟨g,k*4,none⟩)) ?_
 refine tkm 3 15 (.slice (some ⟨b,off,none⟩) n c) ?_
 refine tkm 4 16 (.pointer (some ⟨g,k*4,none⟩)) ?_
 refine tkm 5 17 (.pointer (some ⟨g,k*4,none⟩)) ?_
 refine tkm 6 18 (.pointer (some ⟨g,k*4+1,none⟩)) ?_
 refine tkm 7 19 (.int .i64 p) ?_
 refine tkm 8 20 (.pointer (some ⟨b,off+p*3,none⟩)) ?_
 refine tkm 9 21 (.agg #[.int .i64 7,.int .i64 a,.int .i64 z]) ?_
 refine tkr 10 6 (fun K hK=>?_)
 have hal:Below w.drew.heap.size w.drew (w.drew.alloc (.cells #[.int .i64 0,.int .i64 0,.int .i64 0] 159)):=by go_grown
 go_simp
 refine hK.out _ _ ?_ (fun hS1=>?_)
 ·exact ⟨cells_kept hal _ _ hS0.1,cells_kept hal _ _ hS0.2.1,cells_kept hal _ _ hS0.2.2.1,cells_kept hal _ _ hS0.2.2.2.1,cells_kept hal _ _ hS0.2.2.2.2⟩
 clear hK
 try simp only [Act.put,tka,tkb,tkc]
 refine tkz 11 (fun K hK=>?_)
 have hal2:Below w.drew.heap.size w.drew (w.drew.alloc (.cells #[.int .i64 7,.int .i64 a,.int .i64 z] 159)):=by go_grown
 go_simp
 refine hK.out _ _ ?_ (fun hS2=>?_)
 ·exact ⟨cells_kept hal2 _ _ hS0.1,cells_kept hal2 _ _ hS0.2.1,cells_kept hal2 _ _ hS0.2.2.1,cells_kept hal2 _ _ hS0.2.2.2.1,cells_kept hal2 _ _ hS0.2.2.2.2⟩
 clear hK
 try simp only [Act.put,tka,tkb,tkc]
 refine wpAnyH_done (by kernel_rfl) ?_ _
 clear hal hal2 hS0 hS1 hS2
 have bx:Below w.heap.size w (w.alloc (.cells #[.int .i64 7,.int .i64 a,.int .i64 z] 159)).drew:=by go_grown
 have pX:Blk (w.alloc (.cells #[.int .i64 7,.int .i64 a,.int .i64 z] 159)).drew w.heap.size 159 [.int .i64 7,.int .i64 a,.int .i64 z]:=Blk.new w 159 [.int .i64 7,.int .i64 a,.int .i64 z]
 have hgl:=hM.lt
 replace hM:=hM.below bx
 replace e1:=cells_kept bx _ _ e1
 have gx:w.grownBy (w.alloc (.cells #[.int .i64 7,.int .i64 a,.int .i64 z] 159)).drew (some g):=grown_new bx
 clear bx e0 q0 q1 q2
 generalize hW2:(w.alloc (.cells #[.int .i64 7,.int .i64 a,.int .i64 z] 159)).drew=W2 at *
 clear hW2
 have hne:w.heap.size≠g:=by omega
 generalize w.heap.size=gX at *
 have f1:=hM.frozen (k*4+1)
 have hM3:=hM.set (k*4+1) (.int .i64 ((p:Int)+1))
 rw [mt_pc _ _ _ _ hL hk] at hM3
 have pX3:=pX.off ⟨g,k*4+1,none⟩ (.int .i64 ((p:Int)+1)) hne
 have g3:=grown_tr gx (grown_cell W2 g (k*4+1) (.int .i64 ((p:Int)+1)))
 have u0:=pX3.cell 0
 have u1:=pX3.cell 1
 have u2:=pX3.cell 2
 simp only [List.getElem?_cons_zero,List.getElem?_cons_succ] at u0 u1 u2
 have r1:(W2.setCell ⟨g,k*4+1,none⟩ (.int .i64 ((p:Int)+1))).cell? ⟨g,k*4+2+a,none⟩=some (.int .i64 vv):=(hM3.cell _).trans ((mc_reg _ _ _ _ hk ha).trans (congrArg (fun z=>some (Value.int .i64 z)) hvv))
 have ha2:(a:Int)<2:=by omega
 have hn0:(vv != 0)=true:=by simp [hv0]
 have r2:(W2.setCell ⟨g,k*4+1,none⟩ (.int .i64 ((p:Int)+1))).cell? ⟨g,k*4+1,none⟩=some (.int .i64 ((p:Int)+1)):=(hM3.cell _).trans ((mc_pc _ _ _ _ hk).trans (by simp [List.getD,hL.1,hk]))
 have f2:=hM3.frozen (k*4+1)
 have hM4:=hM3.set (k*4+1) (.int .i64 z)
 rw [mt_pc _ _ _ _ (hL.pc _ _) hk] at hM4
 simp only [List.set_set] at hM4
 have g4:=grown_tr g3 (grown_cell (W2.setCell ⟨g,k*4+1,none⟩ (.int .i64 ((p:Int)+1))) g (k*4+1) (.int .i64 z))

 have hpw:IntKind.i64.wrap ((p:Int)+1)=(p:Int)+1:=IntWalk.i64_in _ (by omega)
 clear hM gx pX
 clear hvv hM3 g3 pX3
 go_wp2_with fail
 generalize (W2.setCell ⟨g,k*4+1,none⟩ (.int .i64 ((p:Int)+1)))=W3 at *
 go_quiet (fail)
 go_wp2
 go_ret
 exact ⟨rfl,hM4,grown_drewN g4 _⟩
theorem step_assert_yes (g k p b off n c:Nat) (a:Nat) (z:Int) (cs:Sl × Sl × Sl) (m:V4) (w:World) (hk:k<3) (hp:p<n) (hp6:p≤6) (hL:LenOk m) (hM:Blk w g 91 (machR fv cs.1.val cs.2.1.val cs.2.2.val m)) (hg:g≠b∨True)
  (e0:w.cell? ⟨g,k*4,none⟩=some (.slice (some ⟨b,off,none⟩) n c)) (e1:w.cell? ⟨g,k*4+1,none⟩=some (.int .i64 p)) (q0:w.cell? ⟨b,off+p*3,none⟩=some (.int .i64 8)) (q1:w.cell? ⟨b,off+p*3+1,none⟩=some (.int .i64 a)) (q2:w.cell? ⟨b,off+p*3+2,none⟩=some (.int .i64 z)) (ha:a<2) (hvv:m.2.2.2.getD (k*2+a) 0=z) :
  Calls Tryz.prog 76 #[.pointer (some ⟨g,0,none⟩),.int .i64 k] w fun e w'=>e=.returned (.int .i64 0)∧Blk w' g 91 (machR fv cs.1.val cs.2.1.val cs.2.2.val (m.1.set k ((p:Int)+1),m.2))∧w.grownBy w' (some g):=by
 have hk3:(k:Int)<3:=by omega
 have hpn:(p:Int)<(n:Int):=by omega
 go_enter Tryz.func76,Tryz.ntmps76
 go_wp2_with fail
 refine wp_region_held_drew (S:=(fun w'=>w'.cell? ⟨g,k*4,none⟩=some (.slice (some ⟨b,off,none⟩) n c)∧w'.cell? ⟨g,k*4+1,none⟩=some (.int .i64 p)∧w'.cell? ⟨b,off+p*3,none⟩=some (.int .i64 8)∧w'.cell? ⟨b,off+p*3+1,none⟩=some (.int .i64 a)∧w'.cell? ⟨b,off+p*3+2,none⟩=some (.int .i64 z))) (by kernel_rfl) ⟨e0,e1,q0,q1,q2⟩ (fun hS0=>?_)
 refine tkm 0 12 (.pointer (some ⟨g,k*4,none⟩)) ?_
 refine tkm 1 13 (.pointer (some ⟨g,k*4,none⟩)) ?_
 refine tkm 2 14 (.pointer (some ⟨g,k*4,none⟩)) ?_
 refine tkm 3 15 (.slice (some ⟨b,off,none⟩) n c) ?_
 refine tkm 4 16 (.pointer (some ⟨g,k*4,none⟩)) ?_
 refine tkm 5 17 (.pointer (some ⟨g,k*4,none⟩)) ?_
 refine tkm 6 18 (.pointer (some ⟨g,k*4+1,none⟩)) ?_
 refine tkm 7 19 (.int .i64 p) ?_
 refine tkm 8 20 (.pointer (some ⟨b,off+p*3,none⟩)) ?_
 refine tkm 9 21 (.agg #[.int .i64 8,.int .i64 a,.int .i64 z]) ?_
 refine tkr 10 6 (fun K hK=>?_)
 have hal:Below w.drew.heap.size w.drew (w.drew.alloc (.cells #[.int .i64 0,.int .i64 0,.int .i64 0] 159)):=by go_grown
 go_simp
 refine hK.out _ _ ?_ (fun hS1=>?_)
 ·exact ⟨cells_kept hal _ _ hS0.1,cells_kept hal _ _ hS0.2.1,cells_kept hal _ _ hS0.2.2.1,cells_kept hal _ _ hS0.2.2.2.1,cells_kept hal _ _ hS0.2.2.2.2⟩
 clear hK
 try simp only [Act.put,tka,tkb,tkc]
 refine tkz 11 (fun K hK=>?_)
 have hal2:Below w.drew.heap.size w.drew (w.drew.alloc (.cells #[.int .i64 8,.int .i64 a,.int .i64 z] 159)):=by go_grown
 go_simp
 refine hK.out _ _ ?_ (fun hS2=>?_)
 ·exact ⟨cells_kept hal2 _ _ hS0.1,cells_kept hal2 _ _ hS0.2.1,cells_kept hal2 _ _ hS0.2.2.1,cells_kept hal2 _ _ hS0.2.2.2.1,cells_kept hal2 _ _ hS0.2.2.2.2⟩
 clear hK
 try simp only [Act.put,tka,tkb,tkc]
 refine wpAnyH_done (by kernel_rfl) ?_ _
 clear hal hal2 hS0 hS1 hS2
 have bx:Below w.heap.size w (w.alloc (.cells #[.int .i64 8,.int .i64 a,.int .i64 z] 159)).drew:=by go_grown
 have pX:Blk (w.alloc (.cells #[.int .i64 8,.int .i64 a,.int .i64 z] 159)).drew w.heap.size 159 [.int .i64 8,.int .i64 a,.int .i64 z]:=Blk.new w 159 [.int .i64 8,.int .i64 a,.int .i64 z]
 have hgl:=hM.lt
 replace hM:=hM.below bx
 replace e1:=cells_kept bx _ _ e1
 have gx:w.grownBy (w.alloc (.cells #[.int .i64 8,.int .i64 a,.int .i64 z] 159)).drew (some g):=grown_new bx
 clear bx e0 q0 q1 q2
 generalize hW2:(w.alloc (.cells #[.int .i64 8,.int .i64 a,.int .i64 z] 159)).drew=W2 at *
 clear hW2
 have hne:w.heap.size≠g:=by omega
 generalize w.heap.size=gX at *
 have f1:=hM.frozen (k*4+1)
 have hM3:=hM.set (k*4+1) (.int .i64 ((p:Int)+1))
 rw [mt_pc _ _ _ _ hL hk] at hM3
 have pX3:=pX.off ⟨g,k*4+1,none⟩ (.int .i64 ((p:Int)+1)) hne
 have g3:=grown_tr gx (grown_cell W2 g (k*4+1) (.int .i64 ((p:Int)+1)))
 have u0:=pX3.cell 0
 have u1:=pX3.cell 1
 have u2:=pX3.cell 2
 simp only [List.getElem?_cons_zero,List.getElem?_cons_succ] at u0 u1 u2
 have r1:(W2.setCell ⟨g,k*4+1,none⟩ (.int .i64 ((p:Int)+1))).cell? ⟨g,k*4+2+a,none⟩=some (.int .i64 z):=(hM3.cell _).trans ((mc_reg _ _ _ _ hk ha).trans (congrArg (fun z=>some (Value.int .i64 z)) hvv))
 have ha2:(a:Int)<2:=by omega
 have hn0:(z != z)=false:=by simp

 have hpw:IntKind.i64.wrap ((p:Int)+1)=(p:Int)+1:=IntWalk.i64_in _ (by omega)
 clear hM gx pX
 clear hvv pX3
 go_wp2_with fail
 generalize (W2.setCell ⟨g,k*4+1,none⟩ (.int .i64 ((p:Int)+1)))=W3 at *
 go_quiet (fail)
 go_wp2
 go_ret
 exact ⟨rfl,hM3,grown_drewN g3 _⟩
theorem step_assert_no (g k p b off n c:Nat) (a:Nat) (z vv:Int) (cs:Sl × Sl × Sl) (m:V4) (w:World) (hk:k<3) (hp:p<n) (hp6:p≤6) (hL:LenOk m) (hM:Blk w g 91 (machR fv cs.1.val cs.2.1.val cs.2.2.val m)) (hg:g≠b∨True)
  (e0:w.cell? ⟨g,k*4,none⟩=some (.slice (some ⟨b,off,none⟩) n c)) (e1:w.cell? ⟨g,k*4+1,none⟩=some (.int .i64 p)) (q0:w.cell? ⟨b,off+p*3,none⟩=some (.int .i64 8)) (q1:w.cell? ⟨b,off+p*3+1,none⟩=some (.int .i64 a)) (q2:w.cell? ⟨b,off+p*3+2,none⟩=some (.int .i64 z)) (ha:a<2) (hvv:m.2.2.2.getD (k*2+a) 0=vv) (hv0:vv≠z) :
  Calls Tryz.prog 76 #[.pointer (some ⟨g,0,none⟩),.int .i64 k] w fun e w'=>e=.returned (.int .i64 12)∧Blk w' g 91 (machR fv cs.1.val cs.2.1.val cs.2.2.val (m.1.set k ((p:Int)+1),m.2))∧w.grownBy w' (some g):=by
 have hk3:(k:Int)<3:=by omega
 have hpn:(p:Int)<(n:Int):=by omega
 go_enter Tryz.func76,Tryz.ntmps76
 go_wp2_with fail
 refine wp_region_held_drew (S:=(fun w'=>w'.cell? ⟨g,k*4,none⟩=some (.slice (some ⟨b,off,none⟩) n c)∧w'.cell? ⟨g,k*4+1,none⟩=some (.int .i64 p)∧w'.cell? ⟨b,off+p*3,none⟩=some (.int .i64 8)∧w'.cell? ⟨b,off+p*3+1,none⟩=some (.int .i64 a)∧w'.cell? ⟨b,off+p*3+2,none⟩=some (.int .i64 z))) (by kernel_rfl) ⟨e0,e1,q0,q1,q2⟩ (fun hS0=>?_)
 refine tkm 0 12 (.pointer (some ⟨g,k*4,none⟩)) ?_
 refine tkm 1 13 (.pointer (some ⟨g,k*4,none⟩)) ?_
 refine tkm 2 14 (.pointer (some ⟨g,k*4,none⟩)) ?_
 refine tkm 3 15 (.slice (some ⟨b,off,none⟩) n c) ?_
 refine tkm 4 16 (.pointer (some ⟨g,k*4,none⟩)) ?_
 refine tkm 5 17 (.pointer (some ⟨g,k*4,none⟩)) ?_
 refine tkm 6 18 (.pointer (some ⟨g,k*4+1,none⟩)) ?_
 refine tkm 7 19 (.int .i64 p) ?_
 refine tkm 8 20 (.pointer (some ⟨b,off+p*3,none⟩)) ?_
 refine tkm 9 21 (.agg #[.int .i64 8,.int .i64 a,.int .i64 z]) ?_
 refine tkr 10 6 (fun K hK=>?_)
 have hal:Below w.drew.heap.size w.drew (w.drew.alloc (.cells #[.int .i64 0,.int .i64 0,.int .i64 0] 159)):=by go_grown
 go_simp
 refine hK.out _ _ ?_ (fun hS1=>?_)
 ·exact ⟨cells_kept hal _ _ hS0.1,cells_kept hal _ _ hS0.2.1,cells_kept hal _ _ hS0.2.2.1,cells_kept hal _ _ hS0.2.2.2.1,cells_kept hal _ _ hS0.2.2.2.2⟩
 clear hK
 try simp only [Act.put,tka,tkb,tkc]
 refine tkz 11 (fun K hK=>?_)
 have hal2:Below w.drew.heap.size w.drew (w.drew.alloc (.cells #[.int .i64 8,.int .i64 a,.int .i64 z] 159)):=by go_grown
 go_simp
 refine hK.out _ _ ?_ (fun hS2=>?_)
 ·exact ⟨cells_kept hal2 _ _ hS0.1,cells_kept hal2 _ _ hS0.2.1,cells_kept hal2 _ _ hS0.2.2.1,cells_kept hal2 _ _ hS0.2.2.2.1,cells_kept hal2 _ _ hS0.2.2.2.2⟩
 clear hK
 try simp only [Act.put,tka,tkb,tkc]
 refine wpAnyH_done (by kernel_rfl) ?_ _
 clear hal hal2 hS0 hS1 hS2
 have bx:Below w.heap.size w (w.alloc (.cells #[.int .i64 8,.int .i64 a,.int .i64 z] 159)).drew:=by go_grown
 have pX:Blk (w.alloc (.cells #[.int .i64 8,.int .i64 a,.int .i64 z] 159)).drew w.heap.size 159 [.int .i64 8,.int .i64 a,.int .i64 z]:=Blk.new w 159 [.int .i64 8,.int .i64 a,.int .i64 z]
 have hgl:=hM.lt
 replace hM:=hM.below bx
 replace e1:=cells_kept bx _ _ e1
 have gx:w.grownBy (w.alloc (.cells #[.int .i64 8,.int .i64 a,.int .i64 z] 159)).drew (some g):=grown_new bx
 clear bx e0 q0 q1 q2
 generalize hW2:(w.alloc (.cells #[.int .i64 8,.int .i64 a,.int .i64 z] 159)).drew=W2 at *
 clear hW2
 have hne:w.heap.size≠g:=by omega
 generalize w.heap.size=gX at *
 have f1:=hM.frozen (k*4+1)
 have hM3:=hM.set (k*4+1) (.int .i64 ((p:Int)+1))
 rw [mt_pc _ _ _ _ hL hk] at hM3
 have pX3:=pX.off ⟨g,k*4+1,none⟩ (.int .i64 ((p:Int)+1)) hne
 have g3:=grown_tr gx (grown_cell W2 g (k*4+1) (.int .i64 ((p:Int)+1)))
 have u0:=pX3.cell 0
 have u1:=pX3.cell 1
 have u2:=pX3.cell 2
 simp only [List.getElem?_cons_zero,List.getElem?_cons_succ] at u0 u1 u2
 have r1:(W2.setCell ⟨g,k*4+1,none⟩ (.int .i64 ((p:Int)+1))).cell? ⟨g,k*4+2+a,none⟩=some (.int .i64 vv):=(hM3.cell _).trans ((mc_reg _ _ _ _ hk ha).trans (congrArg (fun z=>some (Value.int .i64 z)) hvv))
 have ha2:(a:Int)<2:=by omega
 have hn0:(vv != z)=true:=by simp [hv0]

 have hpw:IntKind.i64.wrap ((p:Int)+1)=(p:Int)+1:=IntWalk.i64_in _ (by omega)
 clear hM gx pX
 clear hvv pX3
 go_wp2_with fail
 generalize (W2.setCell ⟨g,k*4+1,none⟩ (.int .i64 ((p:Int)+1)))=W3 at *
 go_quiet (fail)
 go_wp2
 go_ret
 exact ⟨rfl,hM3,grown_drewN g3 _⟩
theorem step_is {w:World} {g:Nat} {cs:Sl × Sl × Sl} {rows:List (List I3)} {m:V4} (h:MachAt fv w g cs rows m) (hp:progOk rows=true) (hs:shapeOk m=true) {k:Nat} (hk:k<3) (hd:doneM rows m k=false) :
  Calls Tryz.prog 76 #[.pointer (some ⟨g,0,none⟩),.int .i64 k] w fun e w'=>e=.returned (.int .i64 (stepM m (insM rows m k) k).2)∧Blk w' g 91 (machR fv cs.1.val cs.2.1.val cs.2.2.val (stepM m (insM rows m k) k).1)∧w.grownBy w' (some g):=by
 obtain ⟨p,ep,hlt,hi,hok⟩:=at_ins hp hs hk hd
 have hl6:=(codeM_len hp hk).1
 have e0:=h.code hk
 have e1:=h.pc hk
 rw [ep] at e1
 obtain ⟨b,off,ea,hpn,q0,q1,q2⟩:=ins_at (h.2 k hk) hlt
 rw [← hi] at q0 q1 q2
 rw [ea] at e0
 have hL:=LenOk.of hs
 have hr9:=(shape_bounds hs).2.2.2
 generalize insM rows m k=x at *
 rcases okI_parts hok with ⟨a,q,rfl,ha,hq⟩ | ⟨q,a,rfl,hq,ha⟩ | ⟨a,z,rfl,ha⟩ | ⟨a,z,rfl,ha,hz⟩ | ⟨a,z,rfl,ha⟩ | ⟨a,z,rfl,ha⟩ | ⟨a,z,rfl,ha,hz⟩ | ⟨a,z,rfl,ha⟩<;>simp only at q0 q1 q2
 ·rw [stepM_1,ep]
  exact step_load g k p b off _ _ a q _ cs m w hk hpn (by omega) hL h.1 (.inr trivial) e0 e1 q0 q1 q2 ha hq rfl
 ·rw [stepM_2,ep]
  exact step_store g k p b off _ _ a q _ cs m w hk hpn (by omega) hL h.1 (.inr trivial) e0 e1 q0 q1 q2 ha hq rfl
 ·rw [stepM_3,ep]
  exact step_set g k p b off _ _ a z cs m w hk hpn (by omega) hL h.1 (.inr trivial) e0 e1 q0 q1 q2 ha
 ·rw [stepM_4,ep]
  exact step_add g k p b off _ _ a z _ _ cs m w hk hpn (by omega) hL h.1 (.inr trivial) e0 e1 q0 q1 q2 ha rfl hz (getD_in hr9 (by decide) _) rfl
 ·rw [stepM_5,ep]
  exact step_lock g k p b off _ _ a z cs m w hk hpn (by omega) hL h.1 (.inr trivial) e0 e1 q0 q1 q2 ha
 ·rw [stepM_6,ep]
  by_cases hv:m.2.2.1.getD a 0=(k:Int)+1
  ·rw [if_pos hv]
   exact step_unlock_yes g k p b off _ _ a z cs m w hk hpn (by omega) hL h.1 (.inr trivial) e0 e1 q0 q1 q2 ha hv
  ·rw [if_neg hv]
   exact step_unlock_no g k p b off _ _ a z cs m w hk hpn (by omega) hL h.1 (.inr trivial) e0 e1 q0 q1 q2 ha hv
 ·rw [stepM_7,ep]
  by_cases hv:m.2.2.2.getD (k*2+a) 0=0
  ·rw [if_pos hv]
   exact step_stay g k p b off _ _ a z cs m w hk hpn (by omega) hL h.1 (.inr trivial) e0 e1 q0 q1 q2 ha hv
  ·rw [if_neg hv]
   exact step_jump g k p b off _ _ a z _ cs m w hk hpn (by omega) hL h.1 (.inr trivial) e0 e1 q0 q1 q2 ha rfl hv
 ·rw [stepM_8,ep]
  by_cases hv:m.2.2.2.getD (k*2+a) 0=z
  ·rw [if_pos hv]
   exact step_assert_yes g k p b off _ _ a z cs m w hk hpn (by omega) hL h.1 (.inr trivial) e0 e1 q0 q1 q2 ha hv
  ·rw [if_neg hv]
   exact step_assert_no g k p b off _ _ a z _ cs m w hk hpn (by omega) hL h.1 (.inr trivial) e0 e1 q0 q1 q2 ha rfl hv

end Rp


def RunKept (w w':World):Prop:=∀ (j:Nat) (cur:Array Value) (e:TypeId) (fz:Nat × Nat),w.heap[j]?=some (Obj.cells cur e fz)→e≠64→e≠91→w'.heap[j]?=some (Obj.cells cur e fz)
theorem RunKept.refl (w:World):RunKept w w:=fun _ _ _ _ h _ _=>h
theorem RunKept.trans {a b c:World} (h:RunKept a b) (k:RunKept b c):RunKept a c:=fun j cur e fz h0 he h9=>k j cur e fz (h j cur e fz h0 he h9) he h9
theorem RunKept.of_below {w w':World} (h:Below w.heap.size w w'):RunKept w w':=fun j cur e fz h0 _ _=>by rw [h.block j (Array.getElem?_eq_some_iff.1 h0).1];exact h0
theorem RunKept.of_blk {w w':World} {g:Nat} {cs:List Value} (hB:Blk w g 91 cs) (h:w.grownBy w' (some g)):RunKept w w':=fun j cur e fz h0 _ h9=>by
 rw [h.block j (Array.getElem?_eq_some_iff.1 h0).1 ?_]
 ·exact h0
 ·intro e9
  cases e9
  unfold Blk at hB
  rw [hB] at h0
  simp at h0
  exact h9 h0.2.1.symm
theorem RunKept.of_own {B s n:Nat} {w w':World} {v:Value} {xs:List Value} (hg:w.grownBy w' v.ownBlock) (ho:w.ownsRow B 64 s v n xs):RunKept w w':=fun j cur e fz h0 he _=>by
 rw [hg.block j (Array.getElem?_eq_some_iff.1 h0).1 ?_]
 ·exact h0
 ·rcases ho.2 with ⟨rfl,_⟩ | ⟨g,cap,cur',rfl,_,hh,_⟩
  ·simp [Value.ownBlock]
  ·simp only [Value.ownBlock,ne_eq,Option.some.injEq]
   rintro rfl
   rw [hh] at h0
   simp at h0
   exact he h0.2.1.symm
theorem RunKept.blk {w w':World} {g t:Nat} {cs:List Value} (h:RunKept w w') (hB:Blk w g t cs) (h1:t≠64) (h2:t≠91):Blk w' g t cs:=h g _ t _ hB h1 h2
theorem own_ne_blkR {w:World} {B e s n g t:Nat} {v:Value} {xs cs:List Value} (h:w.ownsRow B e s v n xs) (hB:Blk w g t cs) (he:e≠t):some g≠v.ownBlock:=by
 rcases h.2 with ⟨rfl,_⟩ | ⟨g',cap,cur',rfl,_,hh,_⟩
 ·simp [Value.ownBlock]
 ·simp only [Value.ownBlock,ne_eq,Option.some.injEq]
  rintro rfl
  unfold Blk at hB
  rw [hB] at hh
  simp at hh
  exact he hh.2.symm
theorem goM_natR (rows:List (List I3)) (m:V4) (k:Nat):goM rows m (k:Int)=stepM m (insM rows m k) k:=by unfold goM;rw [Int.toNat_natCast]

theorem Rp.take_is {fv:Value} {w:World} {g:Nat} {cs:Sl × Sl × Sl} {rows:List (List I3)} {m:V4} (h:Rp.MachAt fv w g cs rows m) (hp:progOk rows=true) (hs:shapeOk m=true) {k:Nat} (hk:k<3) (hd:doneM rows m k=false) :
  Calls Tryz.prog 93 #[.pointer (some ⟨g,0,none⟩),.int .i64 k] w fun e w'=>e=.returned (.agg #[.int .i64 (stepM m (insM rows m k) k).2,.int .i64 k,.int .i64 (m.1.getD k 0)])∧Blk w' g 91 (Rp.machR fv cs.1.val cs.2.1.val cs.2.2.val (stepM m (insM rows m k) k).1)∧w.grownBy w' (some g):=by
 have kS:=fun W (hM:Rp.MachAt fv W g cs rows m)=>Rp.step_is hM hp hs hk hd
 generalize stepM m (insM rows m k) k=zf at *
 obtain ⟨z,f⟩:=zf
 simp only at kS ⊢
 have hk3:(k:Int)<3:=by omega
 obtain ⟨pc,hpc⟩:∃ pc,pc=m.1.getD k 0:=⟨_,rfl⟩
 rw [← hpc]
 have HPc:Hid (pc=m.1.getD k 0):=hpc
 clear hd hp hs hpc
 have hgl:=h.1.lt
 have pB:=Blk.new w 64 [.int .i64 0,.int .i64 0,.int .i64 0]
 have bz:Below w.heap.size w (w.alloc (.cells #[.int .i64 0,.int .i64 0,.int .i64 0] 64)):=by go_grown
 replace h:=h.below bz
 have r1:=h.pc hk
 rw [← HPc.out] at r1
 clear HPc
 have kSx:=kS _ h
 clear kS h
 go_enter Tryz.func93,Tryz.ntmps93
 go_wp2_with fail
 refine kSx.mono ?_
 rintro e w2 ⟨rfl,hM2,g2⟩
 have gz:w.grownBy w2 (some g):=grown_tr (grown_new bz) g2
 have pB2:=pB.kept g2 (by simp;omega)
 have hsz:=gz.size
 clear kSx g2 bz r1 pB
 obtain ⟨GB,hGB⟩:∃ GB,GB=w.heap.size:=⟨_,rfl⟩
 have hwj:w.heap.size≤GB:=by omega
 rw [← hGB] at pB2 hgl ⊢
 clear hGB hsz
 go_wp2_with (refine wpList_store_blk rfl 64 _ _ rfl GB [.int .i64 f,.int .i64 k,.int .i64 pc] rfl rfl pB2 (by kernel_rfl) rfl rfl ?_)
 intro W9 pR2 g3
 have hM3:=hM2.kept g3 (by simp;omega)
 go_wp2
 refine bodyPost_ret (results_blk1 Tryz.results93 _ _ _ _ _ _ rfl pR2.out Tryz.underlying64 rfl (by kernel_rfl)) rfl ?_
 exact ⟨rfl,hM3,grown_box gz g3 hwj⟩

theorem rstep_go {fv:Value} {w:World} {g:Nat} {cs:Sl × Sl × Sl} {rows:List (List I3)} {m:V4} (h:Rp.MachAt fv w g cs rows m) (hp:progOk rows=true) (hs:shapeOk m=true) {k:Nat} (hk:k<3) (hd:doneM rows m k=false) (hw:waitM rows m k=false) :
  Calls Tryz.prog 119 #[.pointer (some ⟨g,0,none⟩),.int .i64 k] w fun e w'=>e=.returned (.iface 64 (.agg #[.int .i64 (goM rows m k).2,.int .i64 k,.int .i64 (m.1.getD k 0)]))∧Blk w' g 91 (Rp.machR fv cs.1.val cs.2.1.val cs.2.2.val (goM rows m k).1)∧w.grownBy w' (some g):=by
 rw [goM_natR]
 have kT:=isThread_is k
 have ht:inB (k:Int) 0 2=true:=inB_true.2 (by omega)
 have kD:=Rp.doneT_is h hk
 have kW:=fun W (hM:Rp.MachAt fv W g cs rows m)=>Rp.waits_is hM hp hs hk
 have kS:=fun W (hM:Rp.MachAt fv W g cs rows m)=>Rp.take_is hM hp hs hk hd
 generalize stepM m (insM rows m k) k=zf at *
 obtain ⟨z,f⟩:=zf
 simp only at kS ⊢
 rw [ht] at kT
 rw [hd] at kD
 rw [hw] at kW
 have hk3:(k:Int)<3:=by omega
 obtain ⟨pc,hpc⟩:∃ pc,pc=m.1.getD k 0:=⟨_,rfl⟩
 rw [← hpc] at kS ⊢
 clear hd ht hw hp hs hpc
 go_enter Tryz.func119,Tryz.ntmps119
 go_wp2_with fail
 refine (kT _).mono ?_
 rintro e w1 ⟨rfl,rfl⟩
 clear kT
 go_wp2_with fail
 refine kD.mono ?_
 rintro e w1 ⟨rfl,d,rfl⟩
 clear kD
 go_wp2_with fail
 refine (kW _ (h.below (below_dN _))).mono ?_
 rintro e w1 ⟨rfl,hb⟩
 have bz:Below w.heap.size w w1:=bel_trans (below_dN _) hb
 clear hb kW
 replace h:=h.below bz
 have kSx:=kS _ h
 clear kS h
 go_wp2_with fail
 refine kSx.mono ?_
 rintro e w2 ⟨rfl,hM2,g2⟩
 have gz:w.grownBy w2 (some g):=grown_tr (grown_new bz) g2
 clear kSx g2 bz
 go_wp2
 go_ret
 exact ⟨rfl,hM2,gz⟩

theorem below_lowR {B C:Nat} {a b:World} (h:Below C a b) (hB:B≤C):Below B a b:=⟨h.os,h.tape,h.output,h.size,fun k hk=>h.block k (by omega)⟩
theorem below_thenR {B:Nat} {a b c:World} (h:Below B a b) (k:Below b.heap.size b c) (hB:B≤b.heap.size):Below B a c:=
 ⟨k.os.trans h.os,k.tape.trans h.tape,k.output.trans h.output,Nat.le_trans h.size k.size,fun j hj=>(k.block j (by omega)).trans (h.block j hj)⟩
theorem flat_snocR (fs:List I3) (x:I3):flat (fs++[x])=flat fs++[.int .i64 x.1,.int .i64 x.2.1,.int .i64 x.2.2]:=by
 induction fs with
 | nil=>rfl
 | cons y ys ih=>simp only [List.cons_append,flat,ih];simp [flat,I3.cells]

theorem keep_bug {fv:Value} {w:World} {g B:Nat} {cs:Sl × Sl × Sl} {m:V4} {fs:List I3} (hM:Blk w g 91 (Rp.machR fv cs.1.val cs.2.1.val cs.2.2.val m)) (hF:w.ownsRow B 64 3 fv fs.length (flat fs)) (hgB:B≤g) (hn:fs.length≤1000000) {f k pc:Int} (hf:f≠0) :
  Calls Tryz.prog 118 #[.pointer (some ⟨g,0,none⟩),.iface 64 (.agg #[.int .i64 f,.int .i64 k,.int .i64 pc])] w fun e w'=>e=.returned (.tuple #[])∧∃ fv',Blk w' g 91 (Rp.machR fv' cs.1.val cs.2.1.val cs.2.2.val m)∧w'.ownsRow B 64 3 fv' (fs.length+1) (flat (fs++[(f,k,pc)]))∧Below B w w'∧RunKept w w':=by
 obtain ⟨i0,hi,hz0,hz1,hz2⟩:=info_parts info_bug
 have hgl:=hM.lt
 have hfn:(f != 0)=true:=by simp [hf]
 have hBw:B≤w.heap.size:=by omega
 clear hf
 have hal:Below w.heap.size w ((w.alloc (.cells #[.int .i64 f,.int .i64 k,.int .i64 pc] 64)).alloc (.cells #[.int .i64 f,.int .i64 k,.int .i64 pc] 64)):=by go_grown
 have pX:Blk ((w.alloc (.cells #[.int .i64 f,.int .i64 k,.int .i64 pc] 64)).alloc (.cells #[.int .i64 f,.int .i64 k,.int .i64 pc] 64)) w.heap.size 64 [.int .i64 f,.int .i64 k,.int .i64 pc]:=blkOld _ (blkAt _ _ _ rfl)
 have hX9:∀ j,fv.ownBlock=some j→j<w.heap.size:=fun j hj=>(hF.lt j hj).2
 have pM:=hM.below hal
 replace hF:=owns_below hF hal
 have bw:Below B w ((w.alloc (.cells #[.int .i64 f,.int .i64 k,.int .i64 pc] 64)).alloc (.cells #[.int .i64 f,.int .i64 k,.int .i64 pc] 64)):=below_lowR hal hBw
 have kp:=RunKept.of_below hal
 have hBU:B≤((w.alloc (.cells #[.int .i64 f,.int .i64 k,.int .i64 pc] 64)).alloc (.cells #[.int .i64 f,.int .i64 k,.int .i64 pc] 64)).heap.size:=Nat.le_trans hBw hal.size
 have hgX:g≠w.heap.size:=by omega
 have hA:=bug_of_bug
 go_enter Tryz.func118,Tryz.ntmps118
 go_wp2
 clear hal hM hA
 generalize ((w.alloc (.cells #[.int .i64 f,.int .i64 k,.int .i64 pc] 64)).alloc (.cells #[.int .i64 f,.int .i64 k,.int .i64 pc] 64))=U at *
 generalize w.heap.size=X at *
 have c0:=pX.cell 0
 have c1:=pX.cell 1
 have c2:=pX.cell 2
 simp only [List.getElem?_cons_zero,List.getElem?_cons_succ] at c0 c1 c2
 refine wp_region_held_drew (S:=(fun w'=>w'.cell? ⟨X,0,none⟩=some (.int .i64 f)∧w'.cell? ⟨X,1,none⟩=some (.int .i64 k)∧w'.cell? ⟨X,2,none⟩=some (.int .i64 pc))) (by kernel_rfl) ⟨c0,c1,c2⟩ (fun hS0=>?_)
 refine tkm 0 17 (.pointer (some ⟨g,0,none⟩)) ?_
 refine tkm 1 18 (.pointer (some ⟨g,0,none⟩)) ?_
 refine tkm 2 19 (.pointer (some ⟨g,0,none⟩)) ?_
 refine tkm 3 20 (.pointer (some ⟨g,18,none⟩)) ?_
 refine tkm 5 22 (.agg #[.int .i64 f,.int .i64 k,.int .i64 pc]) ?_
 refine wpAnyH_ready (rs:=[4,6]) (by kernel_rfl) (by simp) ?_
 refine AllReadyH.cons (o:=⟨some 21,_,_,_,_,_⟩) rfl (fun K hK=>?_) (AllReadyH.cons (o:=⟨some 23,_,_,_,_,_⟩) rfl (fun K hK=>?_) AllReadyH.nil)
 ·have rF:=pM.cell 18
  rw [Rp.machR_found] at rF
  go_simp
  refine hK.out _ _ ⟨c0,c1,c2⟩ (fun hS1=>?_)
  clear hK rF
  try simp only [Act.put,tka,tkb,tkc]
  refine tkr 6 23 (fun K hK=>?_)
  have hdr:Below U.heap.size U U.drew:=by go_grown
  replace c0:=cells_kept hdr _ _ c0
  replace c1:=cells_kept hdr _ _ c1
  replace c2:=cells_kept hdr _ _ c2
  replace pM:=pM.below hdr
  replace pX:=pX.below hdr
  replace hF:=owns_below hF hdr
  replace bw:=below_thenR bw hdr hBU
  replace kp:=kp.trans (RunKept.of_below hdr)
  replace hBU:B≤U.drew.heap.size:=hBU
  clear hdr
  generalize U.drew=U' at *
  obtain ⟨V,hV⟩:∃ V,V=U'.heap.size:=⟨_,rfl⟩
  have e0:(U'.alloc (.cells #[.int .i64 f,.int .i64 k,.int .i64 pc] 64)).cell? ⟨V,0,none⟩=some (.int .i64 f):=by subst hV;simp [go_sem]
  have e1:(U'.alloc (.cells #[.int .i64 f,.int .i64 k,.int .i64 pc] 64)).cell? ⟨V,1,none⟩=some (.int .i64 k):=by subst hV;simp [go_sem]
  have e2:(U'.alloc (.cells #[.int .i64 f,.int .i64 k,.int .i64 pc] 64)).cell? ⟨V,2,none⟩=some (.int .i64 pc):=by subst hV;simp [go_sem]
  have hal:Below U'.heap.size U' (U'.alloc (.cells #[.int .i64 f,.int .i64 k,.int .i64 pc] 64)):=by go_grown
  replace c0:=cells_kept hal _ _ c0
  replace c1:=cells_kept hal _ _ c1
  replace c2:=cells_kept hal _ _ c2
  replace pM:=pM.below hal
  replace pX:=pX.below hal
  replace hF:=owns_below hF hal
  have hBs:B≤(U'.alloc (.cells #[.int .i64 f,.int .i64 k,.int .i64 pc] 64)).heap.size:=Nat.le_trans hBU hal.size
  replace bw:Below B w (U'.alloc (.cells #[.int .i64 f,.int .i64 k,.int .i64 pc] 64)):=below_thenR bw hal hBU
  replace kp:=kp.trans (RunKept.of_below hal)
  go_simp
  rw [← hV]
  refine hK.out _ _ ⟨c0,c1,c2⟩ (fun hS2=>?_)
  clear hK hal hV
  generalize (U'.alloc (.cells #[.int .i64 f,.int .i64 k,.int .i64 pc] 64))=V2 at *
  try simp only [Act.put,tka,tkb,tkc]
  refine tkr 7 24 (fun K hK=>?_)
  refine step_append_mine rfl _ _ 34 rfl B 64 i0 (.agg #[.int .i64 0,.int .i64 0,.int .i64 0]) 3 24 Tryz.underlying34 hi hz0 hz1 hz2 rfl (by decide) fv fs.length (flat fs) rfl hF ⟨V,0,none⟩ 1 1 [.int .i64 f,.int .i64 k,.int .i64 pc] rfl rfl (three_at e0 e1 e2) (three_one _ _ _) (by unfold maxLen;omega) (by omega) hBs ?_
  intro fv2 U2 q2 gr
  have nX:some X≠fv.ownBlock:=fun e=>absurd (hX9 X e.symm) (Nat.lt_irrefl X)
  replace c0:=cell_grownB gr c0 nX
  replace c1:=cell_grownB gr c1 nX
  replace c2:=cell_grownB gr c2 nX
  have nG:=own_ne_blkR hF pM (by decide)
  replace pM:=pM.kept gr (fun e=>nG e.symm)
  replace bw:Below B w U2:=bw.grown gr hBs (fun j hj=>(hF.lt j hj).1)
  replace kp:=kp.trans (RunKept.of_own gr hF)
  refine hK.out _ _ ⟨c0,c1,c2⟩ (fun hS3=>?_)
  have gr2:=gr.size
  clear hK gr nX nG hF e0 e1 e2 pX
  try simp only [Act.put,tka,tkb,tkc]
  obtain ⟨gg,cc,rfl⟩:=own_someB q2 (by omega)
  refine tkm 8 25 (.pointer (some ⟨g,0,none⟩)) ?_
  refine tkm 9 26 (.pointer (some ⟨g,18,none⟩)) ?_
  have rF:=pM.cell 18
  rw [Rp.machR_found] at rF
  have fF:=pM.frozen 18
  refine tkz 10 (fun K hK=>?_)
  have pN:=pM.set 18 (.slice (some ⟨gg,0,none⟩) (fs.length+1) cc)
  rw [Rp.machR_set] at pN
  have gN:=grown_cell U2 g 18 (.slice (some ⟨gg,0,none⟩) (fs.length+1) cc)
  have q3:=q2.kept gN (.inr (own_ne_blkR q2 pM (by decide)).symm)
  have bN:=bw.grown gN (Nat.le_trans hBs gr2) (fun j hj=>by cases hj;exact hgB)
  have kN:=kp.trans (RunKept.of_blk pM gN)
  have nX2:g≠X:=hgX
  have d0:=cell_grownB gN c0 (fun e=>nX2 (by cases e;rfl))
  have d1:=cell_grownB gN c1 (fun e=>nX2 (by cases e;rfl))
  have d2:=cell_grownB gN c2 (fun e=>nX2 (by cases e;rfl))
  go_simp
  refine hK.out _ _ ⟨d0,d1,d2⟩ (fun hS4=>?_)
  clear hK
  try simp only [Act.put,tka,tkb,tkc]
  refine wpAnyH_done (by kernel_rfl) ?_ _
  clear c0 c1 c2 d0 d1 d2 rF fF gN bw kp pM hS0 hS3 hS4
  generalize U2.setCell ⟨g,18,none⟩ (.slice (some ⟨gg,0,none⟩) (fs.length+1) cc)=U3 at *
  go_wp2_with fail
  go_end0
  exact ⟨rfl,_,pN,by rw [flat_snocR];exact q3,bN,kN⟩
 ·obtain ⟨V,hV⟩:∃ V,V=U.heap.size:=⟨_,rfl⟩
  have e0:(U.alloc (.cells #[.int .i64 f,.int .i64 k,.int .i64 pc] 64)).drew.cell? ⟨V,0,none⟩=some (.int .i64 f):=by subst hV;simp [go_sem]
  have e1:(U.alloc (.cells #[.int .i64 f,.int .i64 k,.int .i64 pc] 64)).drew.cell? ⟨V,1,none⟩=some (.int .i64 k):=by subst hV;simp [go_sem]
  have e2:(U.alloc (.cells #[.int .i64 f,.int .i64 k,.int .i64 pc] 64)).drew.cell? ⟨V,2,none⟩=some (.int .i64 pc):=by subst hV;simp [go_sem]
  have hal:Below U.heap.size U (U.alloc (.cells #[.int .i64 f,.int .i64 k,.int .i64 pc] 64)).drew:=by go_grown
  replace c0:=cells_kept hal _ _ c0
  replace c1:=cells_kept hal _ _ c1
  replace c2:=cells_kept hal _ _ c2
  replace pM:=pM.below hal
  replace pX:=pX.below hal
  replace hF:=owns_below hF hal
  have hBs:B≤(U.alloc (.cells #[.int .i64 f,.int .i64 k,.int .i64 pc] 64)).drew.heap.size:=Nat.le_trans hBU hal.size
  replace bw:Below B w (U.alloc (.cells #[.int .i64 f,.int .i64 k,.int .i64 pc] 64)).drew:=below_thenR bw hal hBU
  replace kp:=kp.trans (RunKept.of_below hal)
  go_simp
  rw [← hV]
  refine hK.out _ _ ⟨c0,c1,c2⟩ (fun hS1=>?_)
  clear hK hal hV
  generalize (U.alloc (.cells #[.int .i64 f,.int .i64 k,.int .i64 pc] 64)).drew=V1 at *
  try simp only [Act.put,tka,tkb,tkc]
  refine tkr 4 21 (fun K hK=>?_)
  have rF:=pM.cell 18
  rw [Rp.machR_found] at rF
  go_simp
  refine hK.out _ _ ⟨c0,c1,c2⟩ (fun hS2=>?_)
  clear hK rF
  try simp only [Act.put,tka,tkb,tkc]
  refine tkr 7 24 (fun K hK=>?_)
  refine step_append_mine rfl _ _ 34 rfl B 64 i0 (.agg #[.int .i64 0,.int .i64 0,.int .i64 0]) 3 24 Tryz.underlying34 hi hz0 hz1 hz2 rfl (by decide) fv fs.length (flat fs) rfl hF ⟨V,0,none⟩ 1 1 [.int .i64 f,.int .i64 k,.int .i64 pc] rfl rfl (three_at e0 e1 e2) (three_one _ _ _) (by unfold maxLen;omega) (by omega) hBs ?_
  intro fv2 U2 q2 gr
  have nX:some X≠fv.ownBlock:=fun e=>absurd (hX9 X e.symm) (Nat.lt_irrefl X)
  replace c0:=cell_grownB gr c0 nX
  replace c1:=cell_grownB gr c1 nX
  replace c2:=cell_grownB gr c2 nX
  have nG:=own_ne_blkR hF pM (by decide)
  replace pM:=pM.kept gr (fun e=>nG e.symm)
  replace bw:Below B w U2:=bw.grown gr hBs (fun j hj=>(hF.lt j hj).1)
  replace kp:=kp.trans (RunKept.of_own gr hF)
  refine hK.out _ _ ⟨c0,c1,c2⟩ (fun hS3=>?_)
  have gr2:=gr.size
  clear hK gr nX nG hF e0 e1 e2 pX
  try simp only [Act.put,tka,tkb,tkc]
  obtain ⟨gg,cc,rfl⟩:=own_someB q2 (by omega)
  refine tkm 8 25 (.pointer (some ⟨g,0,none⟩)) ?_
  refine tkm 9 26 (.pointer (some ⟨g,18,none⟩)) ?_
  have rF:=pM.cell 18
  rw [Rp.machR_found] at rF
  have fF:=pM.frozen 18
  refine tkz 10 (fun K hK=>?_)
  have pN:=pM.set 18 (.slice (some ⟨gg,0,none⟩) (fs.length+1) cc)
  rw [Rp.machR_set] at pN
  have gN:=grown_cell U2 g 18 (.slice (some ⟨gg,0,none⟩) (fs.length+1) cc)
  have q3:=q2.kept gN (.inr (own_ne_blkR q2 pM (by decide)).symm)
  have bN:=bw.grown gN (Nat.le_trans hBs gr2) (fun j hj=>by cases hj;exact hgB)
  have kN:=kp.trans (RunKept.of_blk pM gN)
  have nX2:g≠X:=hgX
  have d0:=cell_grownB gN c0 (fun e=>nX2 (by cases e;rfl))
  have d1:=cell_grownB gN c1 (fun e=>nX2 (by cases e;rfl))
  have d2:=cell_grownB gN c2 (fun e=>nX2 (by cases e;rfl))
  go_simp
  refine hK.out _ _ ⟨d0,d1,d2⟩ (fun hS4=>?_)
  clear hK
  try simp only [Act.put,tka,tkb,tkc]
  refine wpAnyH_done (by kernel_rfl) ?_ _
  clear c0 c1 c2 d0 d1 d2 rF fF gN bw kp pM hS0 hS3 hS4
  generalize U2.setCell ⟨g,18,none⟩ (.slice (some ⟨gg,0,none⟩) (fs.length+1) cc)=U3 at *
  go_wp2_with fail
  go_end0
  exact ⟨rfl,_,pN,by rw [flat_snocR];exact q3,bN,kN⟩

end Go.Proofs.YtifoggpohlegmaaGreatDoor
