/-
  Joined: MachI, MachP.
-/
import Derived.BigRegion
import Derived.Laws.CopyOwn
import Derived.Laws.Tables
import Derived.Test.YtjgffnlmjmibgaaGreatDoorE04
import Derived.Test.YtjgffnlmjmibgaaGreatDoorE07
import Derived.Test.YtjgffnlmjmibgaaGreatDoorE13

namespace Go.Proofs.YtjgffnlmjmibgaaGreatDoor
set_option maxRecDepth 100000
set_option maxHeartbeats 16000000
open Go.RowKit

theorem below_dN {w:World} (n:Nat):Below w.heap.size w (w.drewN n):=⟨rfl,rfl,rfl,Nat.le_refl _,fun _ _=>rfl⟩

theorem done_is (g o:Nat) (a:Option Addr) (n c:Nat) (pc:Int) (w:World) (h0:w.cell? ⟨g,o,none⟩=some (.slice a n c)) (h1:w.cell? ⟨g,o+1,none⟩=some (.int .i64 pc)) :
  Calls Tryz.prog 106 #[.pointer (some ⟨g,o,none⟩)] w fun e w'=>e=.returned (.bool (decide ((n:Int)≤pc)))∧∃ d,w'=w.drewN d:=by
 obtain ⟨x,hx⟩:∃ x,x=decide ((n:Int)≤pc):=⟨_,rfl⟩
 have hd:decide ((n:Int)≤pc)=x:=hx.symm
 rw [← hx]
 clear hx
 go_enter Tryz.func106,Tryz.ntmps106
 go_wp2_with fail
 go_quiet (fail)
 go_wp2
 go_ret
 exact ⟨rfl,_,rfl⟩

theorem waits_done (g k:Nat) (a:Option Addr) (n c:Nat) (pc:Int) (w:World) (hk:k<3) (h0:w.cell? ⟨g,k*4,none⟩=some (.slice a n c)) (h1:w.cell? ⟨g,k*4+1,none⟩=some (.int .i64 pc)) (hd:(n:Int)≤pc) :
  Calls Tryz.prog 107 #[.pointer (some ⟨g,0,none⟩),.int .i64 k] w fun e w'=>e=.returned (.bool false)∧Below w.heap.size w w':=by
 have kD:=done_is g (k*4) a n c pc w h0 h1
 rw [decide_eq_true hd] at kD
 have hk3:(k:Int)<3:=by omega
 go_enter Tryz.func107,Tryz.ntmps107
 go_wp2_with fail
 refine kD.mono ?_
 rintro e w1 ⟨rfl,d,rfl⟩
 go_wp2
 go_ret
 exact ⟨rfl,below_dN _⟩

theorem waits_free (g k p b off:Nat) (n c:Nat) (x0 x1 x2:Int) (w:World) (hk:k<3) (hd:p<n)
  (h0:w.cell? ⟨g,k*4,none⟩=some (.slice (some ⟨b,off,none⟩) n c)) (h1:w.cell? ⟨g,k*4+1,none⟩=some (.int .i64 p)) (c0:w.cell? ⟨b,off+p*3,none⟩=some (.int .i64 x0)) (c1:w.cell? ⟨b,off+p*3+1,none⟩=some (.int .i64 x1)) (c2:w.cell? ⟨b,off+p*3+2,none⟩=some (.int .i64 x2)) (hx:x0≠5) :
  Calls Tryz.prog 107 #[.pointer (some ⟨g,0,none⟩),.int .i64 k] w fun e w'=>e=.returned (.bool false)∧Below w.heap.size w w':=by
 have kD:=done_is g (k*4) (some ⟨b,off,none⟩) n c p w h0 h1
 rw [decide_eq_false (by omega)] at kD
 have hk3:(k:Int)<3:=by omega
 have hpn:(p:Int)<(n:Int):=by omega
 go_enter Tryz.func107,Tryz.ntmps107
 go_wp2_with fail
 refine kD.mono ?_
 rintro e w1 ⟨rfl,d,rfl⟩
 clear kD
 go_wp2_with fail
 replace h0:(w.drewN d).cell? ⟨g,k*4,none⟩=some (.slice (some ⟨b,off,none⟩) n c):=h0
 replace h1:(w.drewN d).cell? ⟨g,k*4+1,none⟩=some (.int .i64 p):=h1
 replace c0:(w.drewN d).cell? ⟨b,off+p*3,none⟩=some (.int .i64 x0):=c0
 replace c1:(w.drewN d).cell? ⟨b,off+p*3+1,none⟩=some (.int .i64 x1):=c1
 replace c2:(w.drewN d).cell? ⟨b,off+p*3+2,none⟩=some (.int .i64 x2):=c2
 have bw:Below w.heap.size w (w.drewN d):=below_dN _
 generalize w.drewN d=W at *
 refine wp_region_held_drew (S:=(fun w'=>w'.cell? ⟨g,k*4,none⟩=some (.slice (some ⟨b,off,none⟩) n c)∧w'.cell? ⟨g,k*4+1,none⟩=some (.int .i64 p)∧w'.cell? ⟨b,off+p*3,none⟩=some (.int .i64 x0)∧w'.cell? ⟨b,off+p*3+1,none⟩=some (.int .i64 x1)∧w'.cell? ⟨b,off+p*3+2,none⟩=some (.int .i64 x2))) (by kernel_rfl) ⟨h0,h1,c0,c1,c2⟩ (fun hS0=>?_)
 refine tkm 0 14 (.pointer (some ⟨g,k*4,none⟩)) ?_
 refine tkm 1 15 (.pointer (some ⟨g,k*4,none⟩)) ?_
 refine tkm 2 16 (.pointer (some ⟨g,k*4,none⟩)) ?_
 refine tkm 3 17 (.slice (some ⟨b,off,none⟩) n c) ?_
 refine tkm 4 18 (.pointer (some ⟨g,k*4,none⟩)) ?_
 refine tkm 5 19 (.pointer (some ⟨g,k*4,none⟩)) ?_
 refine tkm 6 20 (.pointer (some ⟨g,k*4+1,none⟩)) ?_
 refine tkm 7 21 (.int .i64 p) ?_
 refine tkm 8 22 (.pointer (some ⟨b,off+p*3,none⟩)) ?_
 refine tkm 9 23 (.agg #[.int .i64 x0,.int .i64 x1,.int .i64 x2]) ?_
 refine tkr 10 6 (fun K hK=>?_)
 have hal:Below W.drew.heap.size W.drew (W.drew.alloc (.cells #[.int .i64 0,.int .i64 0,.int .i64 0] 141)):=by go_grown
 go_simp
 refine hK.out _ _ ?_ (fun hS1=>?_)
 ·exact ⟨cells_kept hal _ _ hS0.1,cells_kept hal _ _ hS0.2.1,cells_kept hal _ _ hS0.2.2.1,cells_kept hal _ _ hS0.2.2.2.1,cells_kept hal _ _ hS0.2.2.2.2⟩
 clear hK
 try simp only [Act.put,tka,tkb,tkc]
 refine tkz 11 (fun K hK=>?_)
 have hal2:Below W.drew.heap.size W.drew (W.drew.alloc (.cells #[.int .i64 x0,.int .i64 x1,.int .i64 x2] 141)):=by go_grown
 go_simp
 refine hK.out _ _ ?_ (fun hS2=>?_)
 ·exact ⟨cells_kept hal2 _ _ hS0.1,cells_kept hal2 _ _ hS0.2.1,cells_kept hal2 _ _ hS0.2.2.1,cells_kept hal2 _ _ hS0.2.2.2.1,cells_kept hal2 _ _ hS0.2.2.2.2⟩
 clear hK
 try simp only [Act.put,tka,tkb,tkc]
 refine wpAnyH_done (by kernel_rfl) ?_ _
 replace bw:Below w.heap.size w (W.alloc (.cells #[.int .i64 x0,.int .i64 x1,.int .i64 x2] 141)).drew:=bel_trans bw (by go_grown)
 have pX:Blk (W.alloc (.cells #[.int .i64 x0,.int .i64 x1,.int .i64 x2] 141)).drew W.heap.size 141 [.int .i64 x0,.int .i64 x1,.int .i64 x2]:=Blk.new W 141 [.int .i64 x0,.int .i64 x1,.int .i64 x2]
 have q0:=pX.cell 0
 have q1:=pX.cell 1
 simp only [List.getElem?_cons_zero,List.getElem?_cons_succ] at q0 q1
 clear hal hal2 hS0 hS1 h0 h1 c0 c1 c2 pX
 clear hS2
 have hx5:(x0 == 5)=false:=by simp [hx]
 go_wp2_with fail
 generalize (W.alloc (.cells #[.int .i64 x0,.int .i64 x1,.int .i64 x2] 141)).drew=W2 at *
 generalize W.heap.size=gx at *
 go_quiet (fail)
 have bz:Below w.heap.size w (W2.drewN nq):=bel_trans bw (below_dN _)
 go_wp2
 go_ret
 exact ⟨rfl,bz⟩

theorem waits_lock (g k p b off:Nat) (n c:Nat) (x2:Int) (q:Nat) (hv:Int) (w:World) (hk:k<3) (hd:p<n)
  (h0:w.cell? ⟨g,k*4,none⟩=some (.slice (some ⟨b,off,none⟩) n c)) (h1:w.cell? ⟨g,k*4+1,none⟩=some (.int .i64 p)) (c0:w.cell? ⟨b,off+p*3,none⟩=some (.int .i64 5)) (c1:w.cell? ⟨b,off+p*3+1,none⟩=some (.int .i64 q)) (c2:w.cell? ⟨b,off+p*3+2,none⟩=some (.int .i64 x2)) (h6:w.cell? ⟨g,16+q,none⟩=some (.int .i64 hv)) (hq:q<2) (z:Bool) (hz:z=!decide (hv=0)) :
  Calls Tryz.prog 107 #[.pointer (some ⟨g,0,none⟩),.int .i64 k] w fun e w'=>e=.returned (.bool z)∧Below w.heap.size w w':=by
 have kD:=done_is g (k*4) (some ⟨b,off,none⟩) n c p w h0 h1
 rw [decide_eq_false (by omega)] at kD
 have hk3:(k:Int)<3:=by omega
 have hpn:(p:Int)<(n:Int):=by omega
 go_enter Tryz.func107,Tryz.ntmps107
 go_wp2_with fail
 refine kD.mono ?_
 rintro e w1 ⟨rfl,d,rfl⟩
 clear kD
 go_wp2_with fail
 replace h0:(w.drewN d).cell? ⟨g,k*4,none⟩=some (.slice (some ⟨b,off,none⟩) n c):=h0
 replace h1:(w.drewN d).cell? ⟨g,k*4+1,none⟩=some (.int .i64 p):=h1
 replace c0:(w.drewN d).cell? ⟨b,off+p*3,none⟩=some (.int .i64 5):=c0
 replace c1:(w.drewN d).cell? ⟨b,off+p*3+1,none⟩=some (.int .i64 q):=c1
 replace c2:(w.drewN d).cell? ⟨b,off+p*3+2,none⟩=some (.int .i64 x2):=c2
 replace h6:(w.drewN d).cell? ⟨g,16+q,none⟩=some (.int .i64 hv):=h6
 have bw:Below w.heap.size w (w.drewN d):=below_dN _
 generalize w.drewN d=W at *
 refine wp_region_held_drew (S:=(fun w'=>w'.cell? ⟨g,k*4,none⟩=some (.slice (some ⟨b,off,none⟩) n c)∧w'.cell? ⟨g,k*4+1,none⟩=some (.int .i64 p)∧w'.cell? ⟨b,off+p*3,none⟩=some (.int .i64 5)∧w'.cell? ⟨b,off+p*3+1,none⟩=some (.int .i64 q)∧w'.cell? ⟨b,off+p*3+2,none⟩=some (.int .i64 x2)∧w'.cell? ⟨g,16+q,none⟩=some (.int .i64 hv))) (by kernel_rfl) ⟨h0,h1,c0,c1,c2,h6⟩ (fun hS0=>?_)
 refine tkm 0 14 (.pointer (some ⟨g,k*4,none⟩)) ?_
 refine tkm 1 15 (.pointer (some ⟨g,k*4,none⟩)) ?_
 refine tkm 2 16 (.pointer (some ⟨g,k*4,none⟩)) ?_
 refine tkm 3 17 (.slice (some ⟨b,off,none⟩) n c) ?_
 refine tkm 4 18 (.pointer (some ⟨g,k*4,none⟩)) ?_
 refine tkm 5 19 (.pointer (some ⟨g,k*4,none⟩)) ?_
 refine tkm 6 20 (.pointer (some ⟨g,k*4+1,none⟩)) ?_
 refine tkm 7 21 (.int .i64 p) ?_
 refine tkm 8 22 (.pointer (some ⟨b,off+p*3,none⟩)) ?_
 refine tkm 9 23 (.agg #[.int .i64 5,.int .i64 q,.int .i64 x2]) ?_
 refine tkr 10 6 (fun K hK=>?_)
 have hal:Below W.drew.heap.size W.drew (W.drew.alloc (.cells #[.int .i64 0,.int .i64 0,.int .i64 0] 141)):=by go_grown
 go_simp
 refine hK.out _ _ ?_ (fun hS1=>?_)
 ·exact ⟨cells_kept hal _ _ hS0.1,cells_kept hal _ _ hS0.2.1,cells_kept hal _ _ hS0.2.2.1,cells_kept hal _ _ hS0.2.2.2.1,cells_kept hal _ _ hS0.2.2.2.2.1,cells_kept hal _ _ hS0.2.2.2.2.2⟩
 clear hK
 try simp only [Act.put,tka,tkb,tkc]
 refine tkz 11 (fun K hK=>?_)
 have hal2:Below W.drew.heap.size W.drew (W.drew.alloc (.cells #[.int .i64 5,.int .i64 q,.int .i64 x2] 141)):=by go_grown
 go_simp
 refine hK.out _ _ ?_ (fun hS2=>?_)
 ·exact ⟨cells_kept hal2 _ _ hS0.1,cells_kept hal2 _ _ hS0.2.1,cells_kept hal2 _ _ hS0.2.2.1,cells_kept hal2 _ _ hS0.2.2.2.1,cells_kept hal2 _ _ hS0.2.2.2.2.1,cells_kept hal2 _ _ hS0.2.2.2.2.2⟩
 clear hK
 try simp only [Act.put,tka,tkb,tkc]
 refine wpAnyH_done (by kernel_rfl) ?_ _
 replace bw:Below w.heap.size w (W.alloc (.cells #[.int .i64 5,.int .i64 q,.int .i64 x2] 141)).drew:=bel_trans bw (by go_grown)
 have pX:Blk (W.alloc (.cells #[.int .i64 5,.int .i64 q,.int .i64 x2] 141)).drew W.heap.size 141 [.int .i64 5,.int .i64 q,.int .i64 x2]:=Blk.new W 141 [.int .i64 5,.int .i64 q,.int .i64 x2]
 have q0:=pX.cell 0
 have q1:=pX.cell 1
 simp only [List.getElem?_cons_zero,List.getElem?_cons_succ] at q0 q1
 clear hal hal2 hS0 hS1 h0 h1 c0 c1 c2 h6 pX
 replace hS2:=hS2.2.2.2.2.2
 have hq2:(q:Int)<2:=by omega
 have hv0:(hv != 0)=z:=by rw [hz];by_cases h:hv=0<;>simp [h]
 clear hz
 go_wp2_with fail
 generalize (W.alloc (.cells #[.int .i64 5,.int .i64 q,.int .i64 x2] 141)).drew=W2 at *
 generalize W.heap.size=gx at *
 go_quiet (fail)
 have bz:Below w.heap.size w (W2.drewN nq):=bel_trans bw (below_dN _)
 go_wp2
 go_ret
 exact ⟨rfl,bz⟩

def slK (cs:Sl × Sl × Sl):Nat→Sl
 | 0=>cs.1
 | 1=>cs.2.1
 | _=>cs.2.2
def MachAt (w:World) (g:Nat) (cs:Sl × Sl × Sl) (rows:List (List I3)) (m:V4):Prop:=
 Blk w g 80 (machCells cs.1.val cs.2.1.val cs.2.2.val m)∧∀ k,k<3→Instrs w (slK cs k).1 (slK cs k).2.1 (slK cs k).2.2 (codeM rows k)
theorem MachAt.below {w w':World} {g:Nat} {cs:Sl × Sl × Sl} {rows:List (List I3)} {m:V4} (h:MachAt w g cs rows m) (hb:Below w.heap.size w w'):MachAt w' g cs rows m:=⟨h.1.below hb,fun k hk=>(h.2 k hk).below hb⟩
theorem codeV_sl (cs:Sl × Sl × Sl) {k:Nat} (hk:k<3):codeV cs.1.val cs.2.1.val cs.2.2.val k=(slK cs k).val:=by
 match k,hk with
 | 0,_=>rfl
 | 1,_=>rfl
 | 2,_=>rfl
theorem MachAt.code {w:World} {g:Nat} {cs:Sl × Sl × Sl} {rows:List (List I3)} {m:V4} (h:MachAt w g cs rows m) {k:Nat} (hk:k<3):w.cell? ⟨g,k*4,none⟩=some (.slice (slK cs k).1 (slK cs k).2.1 (slK cs k).2.2):=by
 rw [h.1.cell,mc_code _ _ _ _ hk,codeV_sl cs hk];rfl
theorem MachAt.pc {w:World} {g:Nat} {cs:Sl × Sl × Sl} {rows:List (List I3)} {m:V4} (h:MachAt w g cs rows m) {k:Nat} (hk:k<3):w.cell? ⟨g,k*4+1,none⟩=some (.int .i64 (m.1.getD k 0)):=by
 rw [h.1.cell,mc_pc _ _ _ _ hk]
theorem MachAt.held {w:World} {g:Nat} {cs:Sl × Sl × Sl} {rows:List (List I3)} {m:V4} (h:MachAt w g cs rows m) {a:Nat} (ha:a<2):w.cell? ⟨g,16+a,none⟩=some (.int .i64 (m.2.2.1.getD a 0)):=by
 rw [h.1.cell,mc_held _ _ _ _ ha]

theorem ins_at {w:World} {a:Option Addr} {n c:Nat} {xs:List I3} (h:Instrs w a n c xs) {p:Nat} (hp:p<xs.length):∃ b off,a=some ⟨b,off,none⟩∧p<n ∧
  w.cell? ⟨b,off+p*3,none⟩=some (.int .i64 (xs.getD p (0,0,0)).1)∧w.cell? ⟨b,off+p*3+1,none⟩=some (.int .i64 (xs.getD p (0,0,0)).2.1)∧w.cell? ⟨b,off+p*3+2,none⟩=some (.int .i64 (xs.getD p (0,0,0)).2.2):=by
 obtain ⟨hl,_,_,_,h0 | ⟨b,off,ha,_,hc⟩⟩:=h
 ·omega
 ·exact ⟨b,off,ha,by omega,hc p (by omega)⟩
theorem codeM_len {rows:List (List I3)} (hp:progOk rows=true) {k:Nat} (hk:k<3):(codeM rows k).length≤6∧∀ x ∈ codeM rows k,okI x=true:=by
 obtain ⟨h3,hr⟩:=progOk_parts hp
 exact hr _ (by unfold codeM;simp [List.getD,show k<rows.length by omega])
theorem at_ins {rows:List (List I3)} {m:V4} (hp:progOk rows=true) (hs:shapeOk m=true) {k:Nat} (hk:k<3) (hd:doneM rows m k=false):∃ p:Nat,m.1.getD k 0=p∧p<(codeM rows k).length∧insM rows m k=(codeM rows k).getD p (0,0,0)∧okI (insM rows m k)=true:=by
 have hb:=getD_in (shape_bounds hs).1 (by decide) k
 unfold doneM at hd
 simp only [decide_eq_false_iff_not] at hd
 have e:m.1.getD k 0=((m.1.getD k 0).toNat:Int):=by omega
 refine ⟨(m.1.getD k 0).toNat,e,by omega,rfl,?_⟩
 refine (codeM_len hp hk).2 _ ?_
 unfold insM
 have hlt:(m.1.getD k 0).toNat<(codeM rows k).length:=by omega
 rw [List.getD,List.getElem?_eq_getElem hlt,Option.getD_some]
 exact List.getElem_mem hlt
theorem okI_lock {x:I3} (h:okI x=true) (h5:x.1=5):∃ q:Nat,x.2.1=q∧q<2:=by
 unfold okI at h
 simp only [h5] at h
 have h2:inB x.2.1 0 1=true:=by
  have:=h
  simp at this
  exact this.1
 rw [inB_true] at h2
 exact ⟨x.2.1.toNat,by omega,by omega⟩

set_option linter.unusedVariables false
set_option linter.unusedSimpArgs false

def LenOk (m:V4):Prop:=m.1.length=3∧m.2.1.length=4∧m.2.2.1.length=2∧m.2.2.2.length=6
theorem LenOk.of {m:V4} (h:shapeOk m=true):LenOk m:=by
 obtain ⟨a,b,c,d,_⟩:=shape_parts h
 exact ⟨a,b,c,d⟩
theorem LenOk.lists {m:V4} (h:LenOk m):∃ p0 p1 p2 v0 v1 v2 v3 h0 h1 x0 y0 x1 y1 x2 y2:Int,m=([p0,p1,p2],[v0,v1,v2,v3],[h0,h1],[x0,y0,x1,y1,x2,y2]):=by
 obtain ⟨l0,l1,l2,l3⟩:=h
 obtain ⟨a,b,c,d⟩:=m
 simp only at l0 l1 l2 l3
 match a,b,c,d,l0,l1,l2,l3 with
 | [p0,p1,p2],[v0,v1,v2,v3],[h0,h1],[x0,y0,x1,y1,x2,y2],_,_,_,_=>exact ⟨p0,p1,p2,v0,v1,v2,v3,h0,h1,x0,y0,x1,y1,x2,y2,rfl⟩
section
variable (c0 c1 c2 : Value) (m : V4) (h : LenOk m)
include h
end
theorem LenOk.pc {m:V4} (h:LenOk m) (k:Nat) (v:Int):LenOk (m.1.set k v,m.2):=⟨by simpa using h.1,h.2⟩
theorem grown_tr {a b c:World} {r:Option Nat} (h:a.grownBy b r) (k:b.grownBy c r):a.grownBy c r:=grownBy_tr h k
theorem grown_new {a b:World} {r:Option Nat} (h:Below a.heap.size a b):a.grownBy b r:=⟨h.os,h.tape,h.output,h.size,fun i hi _=>h.block i hi⟩
theorem grown_cell (W:World) (g i:Nat) (v:Value):W.grownBy (W.setCell ⟨g,i,none⟩ v) (some g):=grownBy_set W g i v

theorem grown_drew {a b:World} {r:Option Nat} (h:a.grownBy b r):a.grownBy b.drew r:=⟨h.os,h.tape,h.output,h.size,h.block⟩
theorem grown_drewN {a b:World} {r:Option Nat} (h:a.grownBy b r) (d:Nat):a.grownBy (b.drewN d) r:=⟨h.os,h.tape,h.output,h.size,h.block⟩

end Go.Proofs.YtjgffnlmjmibgaaGreatDoor
