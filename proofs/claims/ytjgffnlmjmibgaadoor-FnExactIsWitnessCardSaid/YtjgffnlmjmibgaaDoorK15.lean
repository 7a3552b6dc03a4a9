/-
  Joined: MachI, WitWalk.
-/
import Derived.BigRegion
import Derived.Test.YtjgffnlmjmibgaaDoorK13
import Derived.Test.YtjgffnlmjmibgaaDoorK14

namespace Go.Proofs.YtjgffnlmjmibgaaDoor
set_option maxRecDepth 100000
set_option maxHeartbeats 16000000
open Go.RowKit

theorem below_dN {w:World} (n:Nat):Below w.heap.size w (w.drewN n):=⟨rfl,rfl,rfl,Nat.le_refl _,fun _ _=>rfl⟩

theorem done_is (g o:Nat) (a:Option Addr) (n c:Nat) (pc:Int) (w:World) (h0:w.cell? ⟨g,o,none⟩=some (.slice a n c)) (h1:w.cell? ⟨g,o+1,none⟩=some (.int .i64 pc)) :
  Calls Tryd.prog 34 #[.pointer (some ⟨g,o,none⟩)] w fun e w'=>e=.returned (.bool (decide ((n:Int)≤pc)))∧∃ d,w'=w.drewN d:=by
 obtain ⟨x,hx⟩:∃ x,x=decide ((n:Int)≤pc):=⟨_,rfl⟩
 have hd:decide ((n:Int)≤pc)=x:=hx.symm
 rw [← hx]
 clear hx
 go_enter Tryd.func34,Tryd.ntmps34
 go_wp2_with fail
 go_quiet (fail)
 go_wp2
 go_ret
 exact ⟨rfl,_,rfl⟩

theorem waits_done (g k:Nat) (a:Option Addr) (n c:Nat) (pc:Int) (w:World) (hk:k<3) (h0:w.cell? ⟨g,k*4,none⟩=some (.slice a n c)) (h1:w.cell? ⟨g,k*4+1,none⟩=some (.int .i64 pc)) (hd:(n:Int)≤pc) :
  Calls Tryd.prog 35 #[.pointer (some ⟨g,0,none⟩),.int .i64 k] w fun e w'=>e=.returned (.bool false)∧Below w.heap.size w w':=by
 have kD:=done_is g (k*4) a n c pc w h0 h1
 rw [decide_eq_true hd] at kD
 have hk3:(k:Int)<3:=by omega
 go_enter Tryd.func35,Tryd.ntmps35
 go_wp2_with fail
 refine kD.mono ?_
 rintro e w1 ⟨rfl,d,rfl⟩
 go_wp2
 go_ret
 exact ⟨rfl,below_dN _⟩

theorem waits_free (g k p b off:Nat) (n c:Nat) (x0 x1 x2:Int) (w:World) (hk:k<3) (hd:p<n)
  (h0:w.cell? ⟨g,k*4,none⟩=some (.slice (some ⟨b,off,none⟩) n c)) (h1:w.cell? ⟨g,k*4+1,none⟩=some (.int .i64 p)) (c0:w.cell? ⟨b,off+p*3,none⟩=some (.int .i64 x0)) (c1:w.cell? ⟨b,off+p*3+1,none⟩=some (.int .i64 x1)) (c2:w.cell? ⟨b,off+p*3+2,none⟩=some (.int .i64 x2)) (hx:x0≠5) :
  Calls Tryd.prog 35 #[.pointer (some ⟨g,0,none⟩),.int .i64 k] w fun e w'=>e=.returned (.bool false)∧Below w.heap.size w w':=by
 have kD:=done_is g (k*4) (some ⟨b,off,none⟩) n c p w h0 h1
 rw [decide_eq_false (by omega)] at kD
 have hk3:(k:Int)<3:=by omega
 have hpn:(p:Int)<(n:Int):=by omega
 go_enter Tryd.func35,Tryd.ntmps35
 go_wp2_with fail
 refine kD.mono ?_
 rintro e w1 ⟨rfl,d,rfl⟩
 clear kD
 go_wp2_with fail
 replace h0:(w.drewN d).cell? ⟨g,k*4,none⟩=some (.slice (some ⟨b,off,none⟩) n c):=h0
 replace h1:(w.drewN d).cell? ⟨g,k*4+1,none⟩=some (.int .i64 p):=h1
 replace c0:(w.drewN d).cell? ⟨b,off+p*3,none⟩=some (.int .i64 x0):=c0
 replace c1:(w.drewN d).cell? ⟨b,off+p*3+1,none⟩=some (.int .i64 x1):=c1
 replace c2:(w.drewN d).cell? ⟨b,off+p*3+2,none⟩=some (.int .i64 x2):=c2
 have bw:Below w.heap.size w (w.drewN d):=below_dN _
 generalize w.drewN d=W at *
 refine wp_region_held_drew (S:=(fun w'=>w'.cell? ⟨g,k*4,none⟩=some (.slice (some ⟨b,off,none⟩) n c)∧w'.cell? ⟨g,k*4+1,none⟩=some (.int .i64 p)∧w'.cell? ⟨b,off+p*3,none⟩=some (.int .i64 x0)∧w'.cell? ⟨b,off+p*3+1,none⟩=some (.int .i64 x1)∧w'.cell? ⟨b,off+p*3+2,none⟩=some (.int .i64 x2))) (by kernel_rfl) ⟨h0,h1,c0,c1,c2⟩ (fun hS0=>?_)
 refine tkm 0 14 (.pointer (some ⟨g,k*4,none⟩)) ?_
 refine tkm 1 15 (.pointer (some ⟨g,k*4,none⟩)) ?_
 refine tkm 2 16 (.pointer (some ⟨g,k*4,none⟩)) ?_
 refine tkm 3 17 (.slice (some ⟨b,off,none⟩) n c) ?_
 refine tkm 4 18 (.pointer (some ⟨g,k*4,none⟩)) ?_
 refine tkm 5 19 (.pointer (some ⟨g,k*4,none⟩)) ?_
 refine tkm 6 20 (.pointer (some ⟨g,k*4+1,none⟩)) ?_
 refine tkm 7 21 (.int .i64 p) ?_
 refine tkm 8 22 (.pointer (some ⟨b,off+p*3,none⟩)) ?_
 refine tkm 9 23 (.agg #[.int .i64 x0,.int .i64 x1,.int .i64 x2]) ?_
 refine tkr 10 6 (fun K hK=>?_)
 have hal:Below W.drew.heap.size W.drew (W.drew.alloc (.cells #[.int .i64 0,.int .i64 0,.int .i64 0] 103)):=by go_grown
 go_simp
 refine hK.out _ _ ?_ (fun hS1=>?_)
 ·exact ⟨cells_kept hal _ _ hS0.1,cells_kept hal _ _ hS0.2.1,cells_kept hal _ _ hS0.2.2.1,cells_kept hal _ _ hS0.2.2.2.1,cells_kept hal _ _ hS0.2.2.2.2⟩
 clear hK
 try simp only [Act.put,tka,tkb,tkc]
 refine tkz 11 (fun K hK=>?_)
 have hal2:Below W.drew.heap.size W.drew (W.drew.alloc (.cells #[.int .i64 x0,.int .i64 x1,.int .i64 x2] 103)):=by go_grown
 go_simp
 refine hK.out _ _ ?_ (fun hS2=>?_)
 ·exact ⟨cells_kept hal2 _ _ hS0.1,cells_kept hal2 _ _ hS0.2.1,cells_kept hal2 _ _ hS0.2.2.1,cells_kept hal2 _ _ hS0.2.2.2.1,cells_kept hal2 _ _ hS0.2.2.2.2⟩
 clear hK
 try simp only [Act.put,tka,tkb,tkc]
 refine wpAnyH_done (by kernel_rfl) ?_ _
 replace bw:Below w.heap.size w (W.alloc (.cells #[.int .i64 x0,.int .i64 x1,.int .i64 x2] 103)).drew:=bel_trans bw (by go_grown)
 have pX:Blk (W.alloc (.cells #[.int .i64 x0,.int .i64 x1,.int .i64 x2] 103)).drew W.heap.size 103 [.int .i64 x0,.int .i64 x1,.int .i64 x2]:=Blk.new W 103 [.int .i64 x0,.int .i64 x1,.int .i64 x2]
 have q0:=pX.cell 0
 have q1:=pX.cell 1
 simp only [List.getElem?_cons_zero,List.getElem?_cons_succ] at q0 q1
 clear hal hal2 hS0 hS1 h0 h1 c0 c1 c2 pX
 clear hS2
 have hx5:(x0 == 5)=false:=by simp [hx]
 go_wp2_with fail
 generalize (W.alloc (.cells #[.int .i64 x0,.int .i64 x1,.int .i64 x2] 103)).drew=W2 at *
 generalize W.heap.size=gx at *
 go_quiet (fail)
 have bz:Below w.heap.size w (W2.drewN nq):=bel_trans bw (below_dN _)
 go_wp2
 go_ret
 exact ⟨rfl,bz⟩

theorem waits_lock (g k p b off:Nat) (n c:Nat) (x2:Int) (q:Nat) (hv:Int) (w:World) (hk:k<3) (hd:p<n)
  (h0:w.cell? ⟨g,k*4,none⟩=some (.slice (some ⟨b,off,none⟩) n c)) (h1:w.cell? ⟨g,k*4+1,none⟩=some (.int .i64 p)) (c0:w.cell? ⟨b,off+p*3,none⟩=some (.int .i64 5)) (c1:w.cell? ⟨b,off+p*3+1,none⟩=some (.int .i64 q)) (c2:w.cell? ⟨b,off+p*3+2,none⟩=some (.int .i64 x2)) (h6:w.cell? ⟨g,16+q,none⟩=some (.int .i64 hv)) (hq:q<2) (z:Bool) (hz:z=!decide (hv=0)) :
  Calls Tryd.prog 35 #[.pointer (some ⟨g,0,none⟩),.int .i64 k] w fun e w'=>e=.returned (.bool z)∧Below w.heap.size w w':=by
 have kD:=done_is g (k*4) (some ⟨b,off,none⟩) n c p w h0 h1
 rw [decide_eq_false (by omega)] at kD
 have hk3:(k:Int)<3:=by omega
 have hpn:(p:Int)<(n:Int):=by omega
 go_enter Tryd.func35,Tryd.ntmps35
 go_wp2_with fail
 refine kD.mono ?_
 rintro e w1 ⟨rfl,d,rfl⟩
 clear kD
 go_wp2_with fail
 replace h0:(w.drewN d).cell? ⟨g,k*4,none⟩=some (.slice (some ⟨b,off,none⟩) n c):=h0
 replace h1:(w.drewN d).cell? ⟨g,k*4+1,none⟩=some (.int .i64 p):=h1
 replace c0:(w.drewN d).cell? ⟨b,off+p*3,none⟩=some (.int .i64 5):=c0
 replace c1:(w.drewN d).cell? ⟨b,off+p*3+1,none⟩=some (.int .i64 q):=c1
 replace c2:(w.drewN d).cell? ⟨b,off+p*3+2,none⟩=some (.int .i64 x2):=c2
 replace h6:(w.drewN d).cell? ⟨g,16+q,none⟩=some (.int .i64 hv):=h6
 have bw:Below w.heap.size w (w.drewN d):=below_dN _
 generalize w.drewN d=W at *
 refine wp_region_held_drew (S:=(fun w'=>w'.cell? ⟨g,k*4,none⟩=some (.slice (some ⟨b,off,none⟩) n c)∧w'.cell? ⟨g,k*4+1,none⟩=some (.int .i64 p)∧w'.cell? ⟨b,off+p*3,none⟩=some (.int .i64 5)∧w'.cell? ⟨b,off+p*3+1,none⟩=some (.int .i64 q)∧w'.cell? ⟨b,off+p*3+2,none⟩=some (.int .i64 x2)∧w'.cell? ⟨g,16+q,none⟩=some (.int .i64 hv))) (by kernel_rfl) ⟨h0,h1,c0,c1,c2,h6⟩ (fun hS0=>?_)
 refine tkm 0 14 (.pointer (some ⟨g,k*4,none⟩)) ?_
 refine tkm 1 15 (.pointer (some ⟨g,k*4,none⟩)) ?_
 refine tkm 2 16 (.pointer (some ⟨g,k*4,none⟩)) ?_
 refine tkm 3 17 (.slice (some ⟨b,off,none⟩) n c) ?_
 refine tkm 4 18 (.pointer (some ⟨g,k*4,none⟩)) ?_
 refine tkm 5 19 (.pointer (some ⟨g,k*4,none⟩)) ?_
 refine tkm 6 20 (.pointer (some ⟨g,k*4+1,none⟩)) ?_
 refine tkm 7 21 (.int .i64 p) ?_
 refine tkm 8 22 (.pointer (some ⟨b,off+p*3,none⟩)) ?_
 refine tkm 9 23 (.agg #[.int .i64 5,.int .i64 q,.int .i64 x2]) ?_
 refine tkr 10 6 (fun K hK=>?_)
 have hal:Below W.drew.heap.size W.drew (W.drew.alloc (.cells #[.int .i64 0,.int .i64 0,.int .i64 0] 103)):=by go_grown
 go_simp
 refine hK.out _ _ ?_ (fun hS1=>?_)
 ·exact ⟨cells_kept hal _ _ hS0.1,cells_kept hal _ _ hS0.2.1,cells_kept hal _ _ hS0.2.2.1,cells_kept hal _ _ hS0.2.2.2.1,cells_kept hal _ _ hS0.2.2.2.2.1,cells_kept hal _ _ hS0.2.2.2.2.2⟩
 clear hK
 try simp only [Act.put,tka,tkb,tkc]
 refine tkz 11 (fun K hK=>?_)
 have hal2:Below W.drew.heap.size W.drew (W.drew.alloc (.cells #[.int .i64 5,.int .i64 q,.int .i64 x2] 103)):=by go_grown
 go_simp
 refine hK.out _ _ ?_ (fun hS2=>?_)
 ·exact ⟨cells_kept hal2 _ _ hS0.1,cells_kept hal2 _ _ hS0.2.1,cells_kept hal2 _ _ hS0.2.2.1,cells_kept hal2 _ _ hS0.2.2.2.1,cells_kept hal2 _ _ hS0.2.2.2.2.1,cells_kept hal2 _ _ hS0.2.2.2.2.2⟩
 clear hK
 try simp only [Act.put,tka,tkb,tkc]
 refine wpAnyH_done (by kernel_rfl) ?_ _
 replace bw:Below w.heap.size w (W.alloc (.cells #[.int .i64 5,.int .i64 q,.int .i64 x2] 103)).drew:=bel_trans bw (by go_grown)
 have pX:Blk (W.alloc (.cells #[.int .i64 5,.int .i64 q,.int .i64 x2] 103)).drew W.heap.size 103 [.int .i64 5,.int .i64 q,.int .i64 x2]:=Blk.new W 103 [.int .i64 5,.int .i64 q,.int .i64 x2]
 have q0:=pX.cell 0
 have q1:=pX.cell 1
 simp only [List.getElem?_cons_zero,List.getElem?_cons_succ] at q0 q1
 clear hal hal2 hS0 hS1 h0 h1 c0 c1 c2 h6 pX
 replace hS2:=hS2.2.2.2.2.2
 have hq2:(q:Int)<2:=by omega
 have hv0:(hv != 0)=z:=by rw [hz];by_cases h:hv=0<;>simp [h]
 clear hz
 go_wp2_with fail
 generalize (W.alloc (.cells #[.int .i64 5,.int .i64 q,.int .i64 x2] 103)).drew=W2 at *
 generalize W.heap.size=gx at *
 go_quiet (fail)
 have bz:Below w.heap.size w (W2.drewN nq):=bel_trans bw (below_dN _)
 go_wp2
 go_ret
 exact ⟨rfl,bz⟩

def slK (cs:Sl × Sl × Sl):Nat→Sl
 | 0=>cs.1
 | 1=>cs.2.1
 | _=>cs.2.2
def MachAt (w:World) (g:Nat) (cs:Sl × Sl × Sl) (rows:List (List I3)) (m:V4):Prop:=
 Blk w g 69 (machCells cs.1.val cs.2.1.val cs.2.2.val m)∧∀ k,k<3→Instrs w (slK cs k).1 (slK cs k).2.1 (slK cs k).2.2 (codeM rows k)
theorem MachAt.below {w w':World} {g:Nat} {cs:Sl × Sl × Sl} {rows:List (List I3)} {m:V4} (h:MachAt w g cs rows m) (hb:Below w.heap.size w w'):MachAt w' g cs rows m:=⟨h.1.below hb,fun k hk=>(h.2 k hk).below hb⟩
theorem codeV_sl (cs:Sl × Sl × Sl) {k:Nat} (hk:k<3):codeV cs.1.val cs.2.1.val cs.2.2.val k=(slK cs k).val:=by
 match k,hk with
 | 0,_=>rfl
 | 1,_=>rfl
 | 2,_=>rfl
theorem MachAt.code {w:World} {g:Nat} {cs:Sl × Sl × Sl} {rows:List (List I3)} {m:V4} (h:MachAt w g cs rows m) {k:Nat} (hk:k<3):w.cell? ⟨g,k*4,none⟩=some (.slice (slK cs k).1 (slK cs k).2.1 (slK cs k).2.2):=by
 rw [h.1.cell,mc_code _ _ _ _ hk,codeV_sl cs hk];rfl
theorem MachAt.pc {w:World} {g:Nat} {cs:Sl × Sl × Sl} {rows:List (List I3)} {m:V4} (h:MachAt w g cs rows m) {k:Nat} (hk:k<3):w.cell? ⟨g,k*4+1,none⟩=some (.int .i64 (m.1.getD k 0)):=by
 rw [h.1.cell,mc_pc _ _ _ _ hk]
theorem MachAt.held {w:World} {g:Nat} {cs:Sl × Sl × Sl} {rows:List (List I3)} {m:V4} (h:MachAt w g cs rows m) {a:Nat} (ha:a<2):w.cell? ⟨g,16+a,none⟩=some (.int .i64 (m.2.2.1.getD a 0)):=by
 rw [h.1.cell,mc_held _ _ _ _ ha]

theorem ins_at {w:World} {a:Option Addr} {n c:Nat} {xs:List I3} (h:Instrs w a n c xs) {p:Nat} (hp:p<xs.length):∃ b off,a=some ⟨b,off,none⟩∧p<n ∧
  w.cell? ⟨b,off+p*3,none⟩=some (.int .i64 (xs.getD p (0,0,0)).1)∧w.cell? ⟨b,off+p*3+1,none⟩=some (.int .i64 (xs.getD p (0,0,0)).2.1)∧w.cell? ⟨b,off+p*3+2,none⟩=some (.int .i64 (xs.getD p (0,0,0)).2.2):=by
 obtain ⟨hl,_,_,_,h0 | ⟨b,off,ha,_,hc⟩⟩:=h
 ·omega
 ·exact ⟨b,off,ha,by omega,hc p (by omega)⟩
theorem codeM_len {rows:List (List I3)} (hp:progOk rows=true) {k:Nat} (hk:k<3):(codeM rows k).length≤6∧∀ x ∈ codeM rows k,okI x=true:=by
 obtain ⟨h3,hr⟩:=progOk_parts hp
 exact hr _ (by unfold codeM;simp [List.getD,show k<rows.length by omega])
theorem at_ins {rows:List (List I3)} {m:V4} (hp:progOk rows=true) (hs:shapeOk m=true) {k:Nat} (hk:k<3) (hd:doneM rows m k=false):∃ p:Nat,m.1.getD k 0=p∧p<(codeM rows k).length∧insM rows m k=(codeM rows k).getD p (0,0,0)∧okI (insM rows m k)=true:=by
 have hb:=getD_in (shape_bounds hs).1 (by decide) k
 unfold doneM at hd
 simp only [decide_eq_false_iff_not] at hd
 have e:m.1.getD k 0=((m.1.getD k 0).toNat:Int):=by omega
 refine ⟨(m.1.getD k 0).toNat,e,by omega,rfl,?_⟩
 refine (codeM_len hp hk).2 _ ?_
 unfold insM
 have hlt:(m.1.getD k 0).toNat<(codeM rows k).length:=by omega
 rw [List.getD,List.getElem?_eq_getElem hlt,Option.getD_some]
 exact List.getElem_mem hlt
theorem okI_lock {x:I3} (h:okI x=true) (h5:x.1=5):∃ q:Nat,x.2.1=q∧q<2:=by
 unfold okI at h
 simp only [h5] at h
 have h2:inB x.2.1 0 1=true:=by
  have:=h
  simp at this
  exact this.1
 rw [inB_true] at h2
 exact ⟨x.2.1.toNat,by omega,by omega⟩

set_option linter.unusedVariables false
set_option linter.unusedSimpArgs false

theorem fnExactIsWitness_of (a0:Option Addr) (n0 c0:Nat) (r0:List (List I3)) (a1:Option Addr) (n1 c1:Nat) (y:I3) (k1:List Int) (x0:Bool) (x1:Int) (w:World) (h0:Codes w a0 n0 c0 r0) (h1:Ints .i64 w a1 n1 c1 k1) (hG:VmShape w)
  (kS:∀ (a0:Option Addr) (n0 c0:Nat) (a1:Option Addr) (n1 c1:Nat) (w:World),Codes w a0 n0 c0 r0→Ints .i64 w a1 n1 c1 k1→Calls Tryd.prog 16 #[.agg #[.slice a0 n0 c0],.slice a1 n1 c1,y.val] w fun e w'=>e=.returned (.tuple #[.bool x0,.int .i64 x1])∧Below w.heap.size w w')
  (kI:∀ (a0:Option Addr) (n0 c0:Nat) (a1:Option Addr) (n1 c1:Nat) (w:World),Codes w a0 n0 c0 r0→Ints .i64 w a1 n1 c1 k1→VmShape w→Calls Tryd.prog 12 #[.agg #[.slice a0 n0 c0],.slice a1 n1 c1,y.val] w fun e w'=>e=.returned (.tuple #[.bool x0,.int .i64 x1])∧Below w.heap.size w w') :
  Calls Tryd.prog 4 #[.agg #[.slice a0 n0 c0],.slice a1 n1 c1,y.val] w fun e w'=>e=.returned (.bool true)∧Below w.heap.size w w':=by
 obtain ⟨y0,y1,y2⟩:=y
 have tB:=toBug_same (y0,y1,y2)
 unfold I3.val at *
 simp only at kS kI tB ⊢
 have kT:=fun W h=>toProgram_copy a0 n0 c0 r0 W h
 have kL1:=fun W h hl=>toIntS_any a1 n1 c1 k1 W h hl
 have bw:Below w.heap.size w ((w.alloc (.cells #[.slice a0 n0 c0] 46)).alloc (.cells #[.int .i64 y0,.int .i64 y1,.int .i64 y2] 47)):=by go_grown
 have p0:Blk ((w.alloc (.cells #[.slice a0 n0 c0] 46)).alloc (.cells #[.int .i64 y0,.int .i64 y1,.int .i64 y2] 47)) w.heap.size 46 [.slice a0 n0 c0]:=blkOld _ (blkAt _ _ _ rfl)
 have pB:Blk ((w.alloc (.cells #[.slice a0 n0 c0] 46)).alloc (.cells #[.int .i64 y0,.int .i64 y1,.int .i64 y2] 47)) (w.heap.size+1) 47 [.int .i64 y0,.int .i64 y1,.int .i64 y2]:=blkAt _ _ _ (by simp)
 by_cases g1:1048576<n1
 ·have g9:(1048576:Int)<(n1:Int):=by omega
  clear g1 kS kI kT p0 pB tB kL1
  go_enter Tryd.func4,Tryd.ntmps4
  go_wp2
  go_ret
  exact ⟨rfl,bw⟩
 have e1:¬ (1048576:Int)<(n1:Int):=by omega
 replace kL1:=fun W h=>kL1 W h (by omega)
 clear g1
 go_enter Tryd.func4,Tryd.ntmps4
 go_wp2_with fail
 generalize ((w.alloc (.cells #[.slice a0 n0 c0] 46)).alloc (.cells #[.int .i64 y0,.int .i64 y1,.int .i64 y2] 47))=W0 at *
 go_wp2_with (first | refine wpList_load_blk rfl 46 _ rfl w.heap.size rfl p0 _ Tryd.underlying46 rfl (by kernel_rfl) ?_)
 have hz:=sizeLeft_or r0 1048576 (by omega)
 have hbd:=size_bounds (rows:=r0) (left:=1048576) (by omega)
 refine (szProgram_less a0 n0 c0 r0 1048576 _ (h0.below bw) (by omega) (by omega)).mono ?_
 rintro e wz ⟨rfl,hb⟩
 generalize sizeLeft 1048576 r0=zl at hz hbd
 replace bw:=bel_trans bw hb
 replace p0:=p0.below hb
 replace pB:=pB.below hb
 clear hb
 rcases hz with rfl | ⟨yl,xl⟩
 ·clear hbd
  go_wp2
  go_ret
  exact ⟨rfl,bw⟩
 obtain ⟨hr,hr'⟩:=hbd yl (by omega)
 have hlen:n0≤1048576:=by rw [← h0.1];exact hr
 replace kT:=fun W h=>kT W h hlen (fun t _=>hr' t)
 clear hbd hr hr' hlen
 have hn0:decide (zl<0)=false:=by simp;omega
 clear yl xl
 have b9:=p0.cell 0
 have b0:=pB.cell 0
 have b1:=pB.cell 1
 have b2:=pB.cell 2
 simp only [List.getElem?_cons_zero,List.getElem?_cons_succ] at b9 b0 b1 b2
 go_wp2_with fail
 have hdr:Below wz.heap.size wz wz.drew:=by go_grown
 have bd:=bel_trans bw hdr
 refine wp_region_held_drew (S:=(fun w'=>w'.cell? ⟨w.heap.size,0,none⟩=some (.slice a0 n0 c0)∧w'.cell? ⟨w.heap.size+1,0,none⟩=some (.int .i64 y0)∧w'.cell? ⟨w.heap.size+1,1,none⟩=some (.int .i64 y1)∧w'.cell? ⟨w.heap.size+1,2,none⟩=some (.int .i64 y2))) (by kernel_rfl) ⟨b9,b0,b1,b2⟩ (fun hS0=>?_)
 refine tkm 0 23 (.agg #[.slice a0 n0 c0]) ?_
 refine tkm 2 25 (.slice a1 n1 c1) ?_
 refine tkm 4 27 (.agg #[.int .i64 y0,.int .i64 y1,.int .i64 y2]) ?_
 refine tkr 1 24 (fun K hK=>?_)
 go_simp
 refine (kT _ (h0.below bd)).mono ?_
 rintro e wa ⟨rfl,hO,hb1⟩
 go_wp2_with fail
 refine hK.out _ _ ?_ (fun hS1=>?_)
 ·exact ⟨cells_kept hb1 _ _ hS0.1,cells_kept hb1 _ _ hS0.2.1,cells_kept hb1 _ _ hS0.2.2.1,cells_kept hb1 _ _ hS0.2.2.2⟩
 clear hK
 have hA:=hO.codes
 clear hO
 refine tkr 3 26 (fun K hK=>?_)
 go_simp
 refine (kL1 _ (h1.below (bel_trans bd hb1))).mono ?_
 rintro e wb ⟨rfl,hO,hb2⟩
 go_wp2_with fail
 refine hK.out _ _ ?_ (fun hS2=>?_)
 ·exact ⟨cells_kept hb2 _ _ hS1.1,cells_kept hb2 _ _ hS1.2.1,cells_kept hb2 _ _ hS1.2.2.1,cells_kept hb2 _ _ hS1.2.2.2⟩
 clear hK
 have hB1:=Ints.of_owns hO
 clear hO
 replace hA:=hA.below hb2
 refine tkr 5 28 (fun K hK=>?_)
 go_simp
 refine (tB _).mono ?_
 rintro e wc ⟨rfl,hb3⟩
 go_wp2_with fail
 refine hK.out _ _ ?_ (fun hS3=>?_)
 ·exact ⟨cells_kept hb3 _ _ hS2.1,cells_kept hb3 _ _ hS2.2.1,cells_kept hb3 _ _ hS2.2.2.1,cells_kept hb3 _ _ hS2.2.2.2⟩
 clear hK
 refine tkr 6 29 (fun K hK=>?_)
 go_simp
 refine (kS _ _ _ _ _ _ _ (hA.below hb3) (hB1.below hb3)).mono ?_
 rintro e wr ⟨rfl,hb4⟩
 go_wp2_with fail
 refine hK.out _ _ ?_ (fun hS4=>?_)
 ·exact ⟨cells_kept hb4 _ _ hS3.1,cells_kept hb4 _ _ hS3.2.1,cells_kept hb4 _ _ hS3.2.2.1,cells_kept hb4 _ _ hS3.2.2.2⟩
 clear hK
 refine tkm 7 22 (.tuple #[.bool x0,.int .i64 x1]) ?_
 refine tkm 8 30 (.bool x0) ?_
 refine tkm 9 31 (.int .i64 x1) ?_
 refine tkm 10 8 (.bool x0) ?_
 refine tkm 11 9 (.int .i64 x1) ?_
 refine wpAnyH_done (by kernel_rfl) ?_ _
 have hb9:Below wz.heap.size wz wr:=bel_trans hdr (bel_trans hb1 (bel_trans hb2 (bel_trans hb3 hb4)))
 replace bw:=bel_trans bw hb9
 replace p0:=p0.below hb9
 replace pB:=pB.below hb9
 clear hb9 hb1 hb2 hb3 hb4 hdr bd hS0 hS1 hS2 hS3 hS4 hA hB1 kS b9 b0 b1 b2
 go_wp2_with (first | refine wpList_load_blk rfl 46 _ rfl w.heap.size rfl p0 _ Tryd.underlying46 rfl (by kernel_rfl) ?_)
 refine (kT _ (h0.below bw)).mono ?_
 rintro e wx ⟨rfl,hO,hb⟩
 have hX:=hO.codes
 clear hO
 generalize wr.heap.size+3=gx at hX ⊢
 replace bw:=bel_trans bw hb
 replace p0:=p0.below hb
 replace pB:=pB.below hb
 clear hb
 have ha:Below wx.heap.size wx (wx.alloc (.cells #[.slice (some ⟨gx,0,none⟩) n0 n0] 25)):=by go_grown
 have pX:Blk (wx.alloc (.cells #[.slice (some ⟨gx,0,none⟩) n0 n0] 25)) wx.heap.size 25 [.slice (some ⟨gx,0,none⟩) n0 n0]:=blkAt _ _ _ rfl
 replace bw:=bel_trans bw ha
 replace p0:=p0.below ha
 replace pB:=pB.below ha
 replace hX:=hX.below ha
 clear ha
 go_wp2_with fail
 generalize wx.alloc (.cells #[.slice (some ⟨gx,0,none⟩) n0 n0] 25)=wp at *
 generalize wx.heap.size=GX at *
 refine (kL1 _ (h1.below bw)).mono ?_
 rintro e wy1 ⟨rfl,hO,hb⟩
 have hY1:=Ints.of_owns hO
 clear hO
 generalize wp.heap.size=gy1 at hY1 ⊢
 replace bw:=bel_trans bw hb
 replace p0:=p0.below hb
 replace pB:=pB.below hb
 replace hX:=hX.below hb
 replace pX:=pX.below hb
 clear hb
 have hne0:(x0 != x0)=false:=by simp
 have hne1:(x1 != x1)=false:=by simp
 have b9:=pX.cell 0
 have b0:=pB.cell 0
 have b1:=pB.cell 1
 have b2:=pB.cell 2
 simp only [List.getElem?_cons_zero,List.getElem?_cons_succ] at b9 b0 b1 b2
 go_wp2_with fail
 have hdr:Below wy1.heap.size wy1 wy1.drew:=by go_grown
 refine wp_region_held_drew (S:=(fun w'=>w'.cell? ⟨GX,0,none⟩=some (.slice (some ⟨gx,0,none⟩) n0 n0)∧w'.cell? ⟨w.heap.size+1,0,none⟩=some (.int .i64 y0)∧w'.cell? ⟨w.heap.size+1,1,none⟩=some (.int .i64 y1)∧w'.cell? ⟨w.heap.size+1,2,none⟩=some (.int .i64 y2))) (by kernel_rfl) ⟨b9,b0,b1,b2⟩ (fun hS0=>?_)
 refine tkm 0 37 (.agg #[.slice (some ⟨gx,0,none⟩) n0 n0]) ?_
 refine tkm 1 38 (.slice (some ⟨gy1,0,none⟩) n1 n1) ?_
 refine tkm 2 39 (.agg #[.int .i64 y0,.int .i64 y1,.int .i64 y2]) ?_
 refine tkr 3 40 (fun K hK=>?_)
 go_simp
 refine (tB _).mono ?_
 rintro e wc ⟨rfl,hb3⟩
 go_wp2_with fail
 refine hK.out _ _ ?_ (fun hS1=>?_)
 ·exact ⟨cells_kept hb3 _ _ hS0.1,cells_kept hb3 _ _ hS0.2.1,cells_kept hb3 _ _ hS0.2.2.1,cells_kept hb3 _ _ hS0.2.2.2⟩
 clear hK
 have hb5:=bel_trans hdr hb3
 refine tkr 4 41 (fun K hK=>?_)
 go_simp
 refine (kI _ _ _ _ _ _ _ (hX.below hb5) (hY1.below hb5) (hG.below (bel_trans bw hb5))).mono ?_
 rintro e wj ⟨rfl,hb4⟩
 go_wp2_with fail
 refine hK.out _ _ ?_ (fun hS2=>?_)
 ·exact ⟨cells_kept hb4 _ _ hS1.1,cells_kept hb4 _ _ hS1.2.1,cells_kept hb4 _ _ hS1.2.2.1,cells_kept hb4 _ _ hS1.2.2.2⟩
 clear hK
 refine tkm 5 36 (.tuple #[.bool x0,.int .i64 x1]) ?_
 refine tkm 6 42 (.bool x0) ?_
 refine tkm 7 43 (.int .i64 x1) ?_
 refine tkm 8 12 (.bool x0) ?_
 refine tkm 9 13 (.int .i64 x1) ?_
 refine wpAnyH_done (by kernel_rfl) ?_ _
 have hb9:Below wy1.heap.size wy1 wj:=bel_trans hb5 hb4
 replace bw:=bel_trans bw hb9
 replace p0:=p0.below hb9
 replace pB:=pB.below hb9
 replace hX:=hX.below hb9
 replace pX:=pX.below hb9
 replace hY1:=hY1.below hb9
 clear hb9 hb3 hb4 hb5 hdr hS0 hS1 hS2 kI b9 b0 b1 b2
 have c9:=pX.cell 0
 have c8:=p0.cell 0
 simp only [List.getElem?_cons_zero,List.getElem?_cons_succ] at c9 c8
 go_wp2_with fail
 have hdr:Below wj.heap.size wj wj.drew:=by go_grown
 have bd:=bel_trans bw hdr
 refine wp_region_held_drew (S:=(fun w'=>w'.cell? ⟨GX,0,none⟩=some (.slice (some ⟨gx,0,none⟩) n0 n0)∧w'.cell? ⟨w.heap.size,0,none⟩=some (.slice a0 n0 c0))) (by kernel_rfl) ⟨c9,c8⟩ (fun hS0=>?_)
 refine tkm 0 52 (.agg #[.slice (some ⟨gx,0,none⟩) n0 n0]) ?_
 refine tkm 1 53 (.agg #[.slice a0 n0 c0]) ?_
 refine tkr 2 54 (fun K hK=>?_)
 go_simp
 refine (kT _ (h0.below bd)).mono ?_
 rintro e wk ⟨rfl,hO,hb1⟩
 go_wp2_with fail
 refine hK.out _ _ ?_ (fun hS1=>?_)
 ·exact ⟨cells_kept hb1 _ _ hS0.1,cells_kept hb1 _ _ hS0.2⟩
 clear hK
 have hK9:=hO.codes
 clear hO
 refine tkr 3 55 (fun K hK=>?_)
 go_simp
 refine (eqProgram_same _ _ _ _ _ r0 _ (hX.below (bel_trans hdr hb1)) hK9).mono ?_
 rintro e wl ⟨rfl,hb2⟩
 go_wp2_with fail
 refine hK.out _ _ ?_ (fun hS2=>?_)
 ·exact ⟨cells_kept hb2 _ _ hS1.1,cells_kept hb2 _ _ hS1.2⟩
 clear hK
 refine tkm 4 56 (.bool false) ?_
 refine wpAnyH_done (by kernel_rfl) ?_ _
 have hb9:Below wj.heap.size wj wl:=bel_trans hdr (bel_trans hb1 hb2)
 replace bw:=bel_trans bw hb9
 replace hY1:=hY1.below hb9
 clear hb9 hb1 hb2 hdr bd hS0 hS1 hS2 c9 c8 hX pX p0 kT hK9 pB tB
 go_wp2_with fail
 refine (kL1 _ (h1.below bw)).mono ?_
 rintro e wm1 ⟨rfl,hO,hb⟩
 have hM:=Ints.of_owns hO
 clear hO
 replace bw:=bel_trans bw hb
 replace hY1:=hY1.below hb
 clear hb
 go_wp2_with fail
 refine (eqIntS_same _ _ _ _ _ k1 _ hY1 hM).mono ?_
 rintro e wn1 ⟨rfl,d1,hd⟩
 subst hd
 replace bw:=bel_trans bw (below_dN d1)
 clear hM hY1
 go_wp2
 go_ret
 exact ⟨rfl,bw⟩
end Go.Proofs.YtjgffnlmjmibgaaDoor
