/-
  Joined: EvA, RunPl, RunQ, Ev0, Evs, TakM, RyI.
-/
import Derived.Test.YtjgffnlmjmibgaaDoorN23
import Derived.Test.YtjgffnlmjmibgaaDoorN25
import Derived.Test.YtjgffnlmjmibgaaDoorN26
import Derived.Test.YtjgffnlmjmibgaaDoorN27
import Derived.Test.YtjgffnlmjmibgaaDoorN29

namespace Go.Proofs.YtjgffnlmjmibgaaDoor
set_option maxRecDepth 100000
set_option maxHeartbeats 16000000
open Go.RowKit
set_option linter.unusedVariables false
set_option linter.unusedSimpArgs false

def objM (x:I3):Int:=if x.1=1 then x.2.2 else if x.1=2 then x.2.1 else if x.1=5∨x.1=6 then 4+x.2.1 else -1
def eventM (rows:List (List I3)) (m:V4) (k:Nat):Int × Int × Int × Int:=(k,m.1.getD k 0,(insM rows m k).1,objM (insM rows m k))

theorem objOf_is (x0 x1 x2:Int) (hx:-1000≤x1∧x1≤1000) (w:World):Calls Tryd.prog 117 #[.agg #[.int .i64 x0,.int .i64 x1,.int .i64 x2]] w fun e w'=>e=.returned (.int .i64 (objM (x0,x1,x2)))∧Below w.heap.size w w':=by
 obtain ⟨r,hr⟩:∃ r,r=objM (x0,x1,x2):=⟨_,rfl⟩
 rw [← hr]
 unfold objM at hr
 simp only at hr
 have HR:Hid (r=if x0=1 then x2 else if x0=2 then x1 else if x0=5∨x0=6 then 4+x1 else -1):=hr
 clear hr
 have h4:IntKind.i64.wrap (4+x1)=4+x1:=IntWalk.i64_in _ (by omega)
 by_cases q1:x0=1
 ·have HF:Hid (r=x2):=by rw [Hid,HR.out];simp [q1]
  subst q1
  clear HR 
  go_enter Tryd.func117,Tryd.ntmps117
  go_wp2
  go_ret
  exact ⟨by rw [HF.out];rfl,by go_grown⟩
 by_cases q2:x0=2
 ·have HF:Hid (r=x1):=by rw [Hid,HR.out];simp [q2]
  subst q2
  clear HR q1
  go_enter Tryd.func117,Tryd.ntmps117
  go_wp2
  go_ret
  exact ⟨by rw [HF.out];rfl,by go_grown⟩
 by_cases q5:x0=5
 ·have HF:Hid (r=4+x1):=by rw [Hid,HR.out];simp [q5]
  subst q5
  clear HR q1 q2
  go_enter Tryd.func117,Tryd.ntmps117
  go_wp2
  go_ret
  exact ⟨by rw [HF.out];rfl,by go_grown⟩
 by_cases q6:x0=6
 ·have HF:Hid (r=4+x1):=by rw [Hid,HR.out];simp [q6]
  subst q6
  clear HR q1 q2 q5
  go_enter Tryd.func117,Tryd.ntmps117
  go_wp2
  go_ret
  exact ⟨by rw [HF.out];rfl,by go_grown⟩
 have HF:Hid (r=-1):=by rw [Hid,HR.out,if_neg q1,if_neg q2,if_neg (by omega)]
 have r1:(x0 == 1)=false:=by simp [q1]
 have r2:(x0 == 2)=false:=by simp [q2]
 have r5:(x0 == 5)=false:=by simp [q5]
 have r6:(x0 == 6)=false:=by simp [q6]
 clear HR q1 q2 q5 q6
 go_enter Tryd.func117,Tryd.ntmps117
 go_wp2
 go_ret
 exact ⟨by rw [HF.out];rfl,by go_grown⟩

theorem l05Obj_is (x0 x1 x2:Int) (hx:-1000≤x1∧x1≤1000) (w:World):Calls Tryd.prog 127 #[.agg #[.int .i64 x0,.int .i64 x1,.int .i64 x2]] w fun e w'=>e=.returned (.int .i64 (objM (x0,x1,x2)))∧Below w.heap.size w w':=by
 obtain ⟨r,hr⟩:∃ r,r=objM (x0,x1,x2):=⟨_,rfl⟩
 rw [← hr]
 unfold objM at hr
 simp only at hr
 have HR:Hid (r=if x0=1 then x2 else if x0=2 then x1 else if x0=5∨x0=6 then 4+x1 else -1):=hr
 clear hr
 have h4:IntKind.i64.wrap (4+x1)=4+x1:=IntWalk.i64_in _ (by omega)
 by_cases q1:x0=1
 ·have HF:Hid (r=x2):=by rw [Hid,HR.out];simp [q1]
  subst q1
  clear HR 
  go_enter Tryd.func127,Tryd.ntmps127
  go_wp2
  go_ret
  exact ⟨by rw [HF.out];rfl,by go_grown⟩
 by_cases q2:x0=2
 ·have HF:Hid (r=x1):=by rw [Hid,HR.out];simp [q2]
  subst q2
  clear HR q1
  go_enter Tryd.func127,Tryd.ntmps127
  go_wp2
  go_ret
  exact ⟨by rw [HF.out];rfl,by go_grown⟩
 by_cases q5:x0=5
 ·have HF:Hid (r=4+x1):=by rw [Hid,HR.out];simp [q5]
  subst q5
  clear HR q1 q2
  go_enter Tryd.func127,Tryd.ntmps127
  go_wp2
  go_ret
  exact ⟨by rw [HF.out];rfl,by go_grown⟩
 by_cases q6:x0=6
 ·have HF:Hid (r=4+x1):=by rw [Hid,HR.out];simp [q6]
  subst q6
  clear HR q1 q2 q5
  go_enter Tryd.func127,Tryd.ntmps127
  go_wp2
  go_ret
  exact ⟨by rw [HF.out];rfl,by go_grown⟩
 have HF:Hid (r=-1):=by rw [Hid,HR.out,if_neg q1,if_neg q2,if_neg (by omega)]
 have r1:(x0 == 1)=false:=by simp [q1]
 have r2:(x0 == 2)=false:=by simp [q2]
 have r5:(x0 == 5)=false:=by simp [q5]
 have r6:(x0 == 6)=false:=by simp [q6]
 clear HR q1 q2 q5 q6
 go_enter Tryd.func127,Tryd.ntmps127
 go_wp2
 go_ret
 exact ⟨by rw [HF.out];rfl,by go_grown⟩

theorem event_raw (g k p b off n c:Nat) (x0 x1 x2:Int) (w:World) (hk:k<3) (hp:p<n) (hp6:p≤6) (hx:-1000≤x1∧x1≤1000)
  (e0:w.cell? ⟨g,k*4,none⟩=some (.slice (some ⟨b,off,none⟩) n c)) (e1:w.cell? ⟨g,k*4+1,none⟩=some (.int .i64 p)) (q0:w.cell? ⟨b,off+p*3,none⟩=some (.int .i64 x0)) (q1:w.cell? ⟨b,off+p*3+1,none⟩=some (.int .i64 x1)) (q2:w.cell? ⟨b,off+p*3+2,none⟩=some (.int .i64 x2)) :
  Calls Tryd.prog 93 #[.pointer (some ⟨g,0,none⟩),.int .i64 k] w fun e w'=>e=.returned (.agg #[.int .i64 k,.int .i64 p,.int .i64 x0,.int .i64 (objM (x0,x1,x2))])∧Below w.heap.size w w':=by
 have hgl:g<w.heap.size:=World.block_lt_of_cell? _ _ e1
 have hk3:(k:Int)<3:=by omega
 have hpn:(p:Int)<(n:Int):=by omega
 have kO:=objOf_is x0 x1 x2 hx
 generalize objM (x0,x1,x2)=ob at *
 have bw:Below w.heap.size w (w.alloc (.cells #[.int .i64 0,.int .i64 0,.int .i64 0,.int .i64 0] 154)):=by go_grown
 have pR:Blk (w.alloc (.cells #[.int .i64 0,.int .i64 0,.int .i64 0,.int .i64 0] 154)) w.heap.size 154 [.int .i64 0,.int .i64 0,.int .i64 0,.int .i64 0]:=blkAt _ _ _ rfl
 replace e0:=cells_kept bw _ _ e0
 replace e1:=cells_kept bw _ _ e1
 replace q0:=cells_kept bw _ _ q0
 replace q1:=cells_kept bw _ _ q1
 replace q2:=cells_kept bw _ _ q2
 go_enter Tryd.func93,Tryd.ntmps93
 go_wp2_with fail
 have hX9:w.heap.size<(w.alloc (.cells #[.int .i64 0,.int .i64 0,.int .i64 0,.int .i64 0] 154)).heap.size:=pR.lt
 generalize (w.alloc (.cells #[.int .i64 0,.int .i64 0,.int .i64 0,.int .i64 0] 154))=W at *
 refine wp_region_held_drew (S:=(fun w'=>w'.cell? ⟨g,k*4,none⟩=some (.slice (some ⟨b,off,none⟩) n c)∧w'.cell? ⟨g,k*4+1,none⟩=some (.int .i64 p)∧w'.cell? ⟨b,off+p*3,none⟩=some (.int .i64 x0)∧w'.cell? ⟨b,off+p*3+1,none⟩=some (.int .i64 x1)∧w'.cell? ⟨b,off+p*3+2,none⟩=some (.int .i64 x2))) (by kernel_rfl) ⟨e0,e1,q0,q1,q2⟩ (fun hS0=>?_)
 refine tkm 0 12 (.pointer (some ⟨g,k*4,none⟩)) ?_
 refine tkm 1 13 (.pointer (some ⟨g,k*4,none⟩)) ?_
 refine tkm 2 14 (.pointer (some ⟨g,k*4,none⟩)) ?_
 refine tkm 3 15 (.slice (some ⟨b,off,none⟩) n c) ?_
 refine tkm 4 16 (.pointer (some ⟨g,k*4,none⟩)) ?_
 refine tkm 5 17 (.pointer (some ⟨g,k*4,none⟩)) ?_
 refine tkm 6 18 (.pointer (some ⟨g,k*4+1,none⟩)) ?_
 refine tkm 7 19 (.int .i64 p) ?_
 refine tkm 8 20 (.pointer (some ⟨b,off+p*3,none⟩)) ?_
 refine tkm 9 21 (.agg #[.int .i64 x0,.int .i64 x1,.int .i64 x2]) ?_
 refine tkr 10 6 (fun K hK=>?_)
 have hal:Below W.drew.heap.size W.drew (W.drew.alloc (.cells #[.int .i64 0,.int .i64 0,.int .i64 0] 103)):=by go_grown
 go_simp
 refine hK.out _ _ ?_ (fun hS1=>?_)
 ·exact ⟨cells_kept hal _ _ hS0.1,cells_kept hal _ _ hS0.2.1,cells_kept hal _ _ hS0.2.2.1,cells_kept hal _ _ hS0.2.2.2.1,cells_kept hal _ _ hS0.2.2.2.2⟩
 clear hK
 try simp only [Act.put,tka,tkb,tkc]
 refine tkz 11 (fun K hK=>?_)
 have hal2:Below W.drew.heap.size W.drew (W.drew.alloc (.cells #[.int .i64 x0,.int .i64 x1,.int .i64 x2] 103)):=by go_grown
 go_simp
 refine hK.out _ _ ?_ (fun hS2=>?_)
 ·exact ⟨cells_kept hal2 _ _ hS0.1,cells_kept hal2 _ _ hS0.2.1,cells_kept hal2 _ _ hS0.2.2.1,cells_kept hal2 _ _ hS0.2.2.2.1,cells_kept hal2 _ _ hS0.2.2.2.2⟩
 clear hK
 try simp only [Act.put,tka,tkb,tkc]
 refine wpAnyH_done (by kernel_rfl) ?_ _
 have hb:Below W.heap.size W (W.alloc (.cells #[.int .i64 x0,.int .i64 x1,.int .i64 x2] 103)).drew:=by go_grown
 have pX:Blk (W.alloc (.cells #[.int .i64 x0,.int .i64 x1,.int .i64 x2] 103)).drew W.heap.size 103 [.int .i64 x0,.int .i64 x1,.int .i64 x2]:=blkAt _ _ _ rfl
 replace bw:=bel_trans bw hb
 replace pR:=pR.below hb
 replace e1:=cells_kept hb _ _ e1
 skip
 clear hal hal2 hS0 hS1 hS2 e0 q0 q1 q2 hb
 go_wp2_with fail
 generalize (W.alloc (.cells #[.int .i64 x0,.int .i64 x1,.int .i64 x2] 103)).drew=V at *
 generalize W.heap.size=X at *
 have c0:=pX.cell 0
 have c1:=pX.cell 1
 have c2:=pX.cell 2
 simp only [List.getElem?_cons_zero,List.getElem?_cons_succ] at c0 c1 c2
 have hdr:Below V.heap.size V V.drew:=by go_grown
 refine wp_region_held_drew (S:=(fun w'=>w'.cell? ⟨g,k*4+1,none⟩=some (.int .i64 p)∧w'.cell? ⟨X,0,none⟩=some (.int .i64 x0)∧w'.cell? ⟨X,1,none⟩=some (.int .i64 x1)∧w'.cell? ⟨X,2,none⟩=some (.int .i64 x2))) (by kernel_rfl) ⟨e1,c0,c1,c2⟩ (fun hS0=>?_)
 refine tkm 0 22 (.int .i64 (k:Int)) ?_
 refine tkm 1 23 (.pointer (some ⟨g,k*4,none⟩)) ?_
 refine tkm 2 24 (.pointer (some ⟨g,k*4,none⟩)) ?_
 refine tkm 3 25 (.pointer (some ⟨g,k*4+1,none⟩)) ?_
 refine tkm 4 26 (.int .i64 p) ?_
 refine tkm 5 27 (.pointer (some ⟨X,0,none⟩)) ?_
 refine tkm 6 28 (.int .i64 x0) ?_
 refine tkm 7 29 (.agg #[.int .i64 x0,.int .i64 x1,.int .i64 x2]) ?_
 refine tkr 8 30 (fun K hK=>?_)
 go_simp
 refine (kO _).mono ?_
 rintro e U ⟨rfl,hb8⟩
 go_wp2_with fail
 refine hK.out _ _ ?_ (fun hS1=>?_)
 ·exact ⟨cells_kept hb8 _ _ hS0.1,cells_kept hb8 _ _ hS0.2.1,cells_kept hb8 _ _ hS0.2.2.1,cells_kept hb8 _ _ hS0.2.2.2⟩
 clear hK
 refine tkm 9 31 (.agg #[.int .i64 (k:Int),.int .i64 p,.int .i64 x0,.int .i64 ob]) ?_
 replace pR:=pR.below (bel_trans hdr hb8)
 replace bw:=bel_trans bw (bel_trans hdr hb8)
 refine tkz 10 (fun K hK=>?_)
 refine step_store_blkD rfl 154 _ _ rfl w.heap.size [.int .i64 (k:Int),.int .i64 p,.int .i64 x0,.int .i64 ob] rfl rfl pR (by kernel_rfl) rfl rfl ?_
 intro U2 pR2 g2
 have bz:=bw.grown g2 bw.size (fun j hj=>by cases hj;omega)
 have n1:(some g:Option Nat)≠some w.heap.size:=by simp;omega
 have n2:(some X:Option Nat)≠some w.heap.size:=by simp;omega
 refine hK.out _ _ ⟨cell_grownB g2 hS1.1 n1,cell_grownB g2 hS1.2.1 n2,cell_grownB g2 hS1.2.2.1 n2,cell_grownB g2 hS1.2.2.2 n2⟩ (fun hS2=>?_)
 clear hK
 try simp only [Act.put,tka,tkb,tkc]
 refine wpAnyH_done (by kernel_rfl) ?_ _
 clear hS0 hS1 hS2 n1 n2 g2 bw pR hdr hb8 kO c0 c1 c2 e1 pX
 go_wp2_with fail
 refine bodyPost_ret (results_blk1 Tryd.results93 _ _ _ _ _ _ rfl pR2.out Tryd.underlying154 rfl (by kernel_rfl)) rfl ?_
 exact ⟨rfl,bz⟩

theorem okI_mid {x:I3} (h:okI x=true):-1000≤x.2.1∧x.2.1≤1000:=by
 rcases okI_parts h with ⟨a,q,rfl,ha,hq⟩ | ⟨q,a,rfl,hq,ha⟩ | ⟨a,z,rfl,ha⟩ | ⟨a,z,rfl,ha,hz⟩ | ⟨a,z,rfl,ha⟩ | ⟨a,z,rfl,ha⟩ | ⟨a,z,rfl,ha,hz⟩ | ⟨a,z,rfl,ha⟩<;>(simp only;omega)
theorem event_is {w:World} {g:Nat} {cs:Sl × Sl × Sl} {rows:List (List I3)} {m:V4} (h:MachAt w g cs rows m) (hp:progOk rows=true) (hs:shapeOk m=true) {k:Nat} (hk:k<3) (hd:doneM rows m k=false) :
  Calls Tryd.prog 93 #[.pointer (some ⟨g,0,none⟩),.int .i64 k] w fun e w'=>e=.returned (.agg #[.int .i64 (eventM rows m k).1,.int .i64 (eventM rows m k).2.1,.int .i64 (eventM rows m k).2.2.1,.int .i64 (eventM rows m k).2.2.2])∧Below w.heap.size w w':=by
 obtain ⟨p,ep,hlt,hi,hok⟩:=at_ins hp hs hk hd
 have hl6:=(codeM_len hp hk).1
 have e0:=h.code hk
 have e1:=h.pc hk
 rw [ep] at e1
 obtain ⟨b,off,ea,hpn,q0,q1,q2⟩:=ins_at (h.2 k hk) hlt
 rw [← hi] at q0 q1 q2
 rw [ea] at e0
 have hm:=okI_mid hok
 unfold eventM
 rw [ep]
 generalize insM rows m k=x at *
 obtain ⟨x0,x1,x2⟩:=x
 exact event_raw g k p b off _ _ x0 x1 x2 w hk hpn (by omega) hm e0 e1 q0 q1 q2


def haltM (rows:List (List I3)) (m:V4) (k:Int):Int:=
 if 0≤k∧k≤2 then (if doneM rows m k.toNat then 10 else if canM rows m k.toNat then 0 else 11) else 4
def goM (rows:List (List I3)) (m:V4) (k:Int):V4 × Int:=stepM m (insM rows m k.toNat) k.toNat
def ownM (rows:List (List I3)) (m:V4) (k:Int):List I3:=if (goM rows m k).2=0 then [] else [((goM rows m k).2,k,m.1.getD k.toNat 0)]
def deadM (rows:List (List I3)) (m:V4):List I3:=if stuckM rows m then [(14,0,0)] else []
def foundM (rows:List (List I3)) (m:V4) (k:Int):List I3:=if stuckM rows (goM rows m k).1 then putB (ownM rows m k) (14,0,0) else ownM rows m k

def runI (rows:List (List I3)):V4→List I3→List Int→V4 × List I3 × Int
 | m,fs,[]=>(m,fs,0)
 | m,fs,k::ks=>if haltM rows m k=0 then runI rows (goM rows m k).1 (fs++ownM rows m k) ks else (m,fs,haltM rows m k)
def runS (rows:List (List I3)):V4→List I3→List Int→V4 × List I3 × Int
 | m,out,[]=>(m,out,0)
 | m,out,k::ks=>if haltM rows m k=0 then runS rows (goM rows m k).1 (mergeB out (foundM rows m k)) ks else (m,out,haltM rows m k)

theorem halt_can {rows:List (List I3)} {m:V4} {k:Int} (h:haltM rows m k=0):0≤k∧k≤2∧doneM rows m k.toNat=false∧canM rows m k.toNat=true:=by
 unfold haltM at h
 split at h
 ·rename_i hk
  cases hd:doneM rows m k.toNat
  ·cases hc:canM rows m k.toNat
   ·rw [hd,hc] at h;simp at h
   ·exact ⟨hk.1,hk.2,rfl,rfl⟩
  ·rw [hd] at h;simp at h
 ·cases h
theorem can_not_stuck {rows:List (List I3)} {m:V4} {k:Nat} (hk:k<3) (h:canM rows m k=true):stuckM rows m=false:=by
 have hm:(k:Int) ∈ enabM rows m 3:=(mem_enab 3).2 ⟨hk,h⟩
 unfold stuckM
 have hne:¬ (enabM rows m 3=[]):=fun e=>by rw [e] at hm;simp at hm
 simp [hne]
theorem mem_found {rows:List (List I3)} {m:V4} {k:Int} {x:I3}:x ∈ foundM rows m k↔x ∈ ownM rows m k∨x ∈ deadM rows (goM rows m k).1:=by
 unfold foundM deadM
 cases stuckM rows (goM rows m k).1
 ·simp
 ·simp only [if_true,mem_putB,List.mem_singleton]
theorem run_same {rows:List (List I3)}:∀ (ks:List Int) (m:V4) (fs out:List I3),out=mergeB fs (deadM rows m) →
  (runS rows m out ks).1=(runI rows m fs ks).1∧(runS rows m out ks).2.2=(runI rows m fs ks).2.2∧(runS rows m out ks).2.1=mergeB (runI rows m fs ks).2.1 (deadM rows (runI rows m fs ks).1)
 | [],m,fs,out,h=>⟨rfl,rfl,h⟩
 | k::ks,m,fs,out,h=>by
  by_cases hz:haltM rows m k=0
  ·obtain ⟨h0,h2,_,hc⟩:=halt_can hz
   have hst:=can_not_stuck (rows:=rows) (m:=m) (k:=k.toNat) (by omega) hc
   have hd:deadM rows m=[]:=by unfold deadM;rw [hst];rfl
   have e1:runS rows m out (k::ks)=runS rows (goM rows m k).1 (mergeB out (foundM rows m k)) ks:=by
    show (if haltM rows m k=0 then _ else _)=_
    rw [if_pos hz]
   have e2:runI rows m fs (k::ks)=runI rows (goM rows m k).1 (fs++ownM rows m k) ks:=by
    show (if haltM rows m k=0 then _ else _)=_
    rw [if_pos hz]
   rw [e1,e2]
   refine run_same ks _ _ _ ((mergeB_rises _ _).same (mergeB_rises _ _) fun x=>?_)
   rw [mem_mergeB,mem_mergeB,h,mem_mergeB,hd,mem_found,List.mem_append]
   simp only [List.not_mem_nil,or_false,or_assoc]
  ·have e1:runS rows m out (k::ks)=(m,out,haltM rows m k):=by
    show (if haltM rows m k=0 then _ else _)=_
    rw [if_neg hz]
   have e2:runI rows m fs (k::ks)=(m,fs,haltM rows m k):=by
    show (if haltM rows m k=0 then _ else _)=_
    rw [if_neg hz]
   rw [e1,e2]
   exact ⟨rfl,rfl,h⟩


theorem step_codeQ (m:V4) (x:I3) (k:Nat):(stepM m x k).2=0∨(stepM m x k).2=12∨(stepM m x k).2=13:=by
 unfold stepM
 repeat' split
 all_goals simp
theorem ownM_ok {rows:List (List I3)} {m:V4} {k:Int} (hp:progOk rows=true) (hs:shapeOk m=true) (hz:haltM rows m k=0):∀ x ∈ ownM rows m k,okB x=true:=by
 obtain ⟨h0,h2,hd,hc⟩:=halt_can hz
 obtain ⟨q,rfl⟩:∃ q:Nat,k=q:=⟨k.toNat,by omega⟩
 rw [Int.toNat_natCast] at hd
 have hq:q<3:=by omega
 obtain ⟨p,ep,hlt,_,_⟩:=at_ins hp hs hq hd
 have hl6:=(codeM_len hp hq).1
 have hf:=step_codeQ m (insM rows m q) q
 intro x hx
 unfold ownM goM at hx
 rw [Int.toNat_natCast] at hx
 split at hx
 ·simp at hx
 ·rename_i h9
  simp only [List.mem_singleton] at hx
  subst hx
  unfold okB
  simp only
  have h12:(stepM m (insM rows m q) q).2=12∨(stepM m (insM rows m q) q).2=13:=by omega
  rw [if_neg (by omega),if_pos h12,ep]
  rw [Bool.and_eq_true]
  exact ⟨inB_true.2 (by omega),inB_true.2 (by omega)⟩
theorem goM_shape {rows:List (List I3)} {m:V4} {k:Int} (hp:progOk rows=true) (hs:shapeOk m=true) (hz:haltM rows m k=0):shapeOk (goM rows m k).1=true:=by
 obtain ⟨h0,h2,hd,hc⟩:=halt_can hz
 exact shape_step hp hs (by omega) hd
theorem okB_fitsQ {x:I3} (h:okB x=true):I3.fits x:=by
 unfold okB at h
 split at h
 ·rename_i h1
  simp only [Bool.and_eq_true,decide_eq_true_eq] at h
  exact ⟨fits_small (by omega) (by omega),fits_small (by omega) (by omega),fits_small (by omega) (by omega)⟩
 ·split at h
  ·rename_i h1
   rw [Bool.and_eq_true] at h
   have a:=inB_true.1 h.1
   have b:=inB_true.1 h.2
   exact ⟨fits_small (by omega) (by omega),fits_small (by omega) (by omega),fits_small (by omega) (by omega)⟩
  ·cases h

open Go.RowKit Go.ChangeShapes Go.WideShapes Go.Joins

abbrev I4:=Int × Int × Int × Int
def I4.val (x:I4):Value:=.agg #[.int .i64 x.1,.int .i64 x.2.1,.int .i64 x.2.2.1,.int .i64 x.2.2.2]

def depM (a b:I4):Bool:=decide (a.1=b.1) || (decide (0≤a.2.2.2) && decide (a.2.2.2=b.2.2.2) && !(decide (a.2.2.1=1) && decide (b.2.2.1=1)))

theorem specDepends_is (a b:I4) (w:World):Calls Tryd.prog 128 #[a.val,b.val] w fun e w'=>e=.returned (.bool (depM a b))∧Below w.heap.size w w':=by
 obtain ⟨a0,a1,a2,a3⟩:=a
 obtain ⟨b0,b1,b2,b3⟩:=b
 unfold I4.val
 simp only
 by_cases h0:a0=b0
 ·have hA:depM (a0,a1,a2,a3) (b0,b1,b2,b3)=true:=by simp [depM,h0]<;>omega
  have qh0:(a0 == b0)=true:=by simp [h0]
  rw [hA]
  clear hA h0
  go_enter Tryd.func128,Tryd.ntmps128
  go_wp2
  go_ret
  exact ⟨rfl,by go_grown⟩
 ·by_cases h1:0≤a3
  ·by_cases h2:a3=b3
   ·by_cases h3:a2=1
    ·by_cases h4:b2=1
     ·have hA:depM (a0,a1,a2,a3) (b0,b1,b2,b3)=false:=by simp [depM,h0,h1,h2,h3,h4]<;>omega
      have qh0:(a0 == b0)=false:=by simp [h0]
      have qh1:(decide (a3 ≥ 0))=true:=by simp;omega
      have qh2:(a3 == b3)=true:=by simp [h2]
      have qh3:(a2 == 1)=true:=by simp [h3]
      have rh3:(a2 != 1)=false:=by simp [h3]
      have qh4:(b2 == 1)=true:=by simp [h4]
      have rh4:(b2 != 1)=false:=by simp [h4]
      rw [hA]
      clear hA h0 h2 h3 h4
      go_enter Tryd.func128,Tryd.ntmps128
      go_wp2
      go_ret
      exact ⟨rfl,by go_grown⟩
     ·have hA:depM (a0,a1,a2,a3) (b0,b1,b2,b3)=true:=by simp [depM,h0,h1,h2,h3,h4]<;>omega
      have qh0:(a0 == b0)=false:=by simp [h0]
      have qh1:(decide (a3 ≥ 0))=true:=by simp;omega
      have qh2:(a3 == b3)=true:=by simp [h2]
      have qh3:(a2 == 1)=true:=by simp [h3]
      have rh3:(a2 != 1)=false:=by simp [h3]
      have qh4:(b2 == 1)=false:=by simp [h4]
      have rh4:(b2 != 1)=true:=by simp [h4]
      rw [hA]
      clear hA h0 h2 h3 h4
      go_enter Tryd.func128,Tryd.ntmps128
      go_wp2
      go_ret
      exact ⟨rfl,by go_grown⟩
    ·have hA:depM (a0,a1,a2,a3) (b0,b1,b2,b3)=true:=by simp [depM,h0,h1,h2,h3]<;>omega
     have qh0:(a0 == b0)=false:=by simp [h0]
     have qh1:(decide (a3 ≥ 0))=true:=by simp;omega
     have qh2:(a3 == b3)=true:=by simp [h2]
     have qh3:(a2 == 1)=false:=by simp [h3]
     have rh3:(a2 != 1)=true:=by simp [h3]
     rw [hA]
     clear hA h0 h2 h3
     go_enter Tryd.func128,Tryd.ntmps128
     go_wp2
     go_ret
     exact ⟨rfl,by go_grown⟩
   ·have hA:depM (a0,a1,a2,a3) (b0,b1,b2,b3)=false:=by simp [depM,h0,h1,h2]<;>omega
    have qh0:(a0 == b0)=false:=by simp [h0]
    have qh1:(decide (a3 ≥ 0))=true:=by simp;omega
    have qh2:(a3 == b3)=false:=by simp [h2]
    rw [hA]
    clear hA h0 h2
    go_enter Tryd.func128,Tryd.ntmps128
    go_wp2
    go_ret
    exact ⟨rfl,by go_grown⟩
  ·have hA:depM (a0,a1,a2,a3) (b0,b1,b2,b3)=false:=by simp [depM,h0,h1]<;>omega
   have qh0:(a0 == b0)=false:=by simp [h0]
   have qh1:(decide (a3 ≥ 0))=false:=by simp;omega
   rw [hA]
   clear hA h0
   go_enter Tryd.func128,Tryd.ntmps128
   go_wp2
   go_ret
   exact ⟨rfl,by go_grown⟩

theorem implDepends_is (a b:I4) (w:World):Calls Tryd.prog 118 #[a.val,b.val] w fun e w'=>e=.returned (.bool (depM a b))∧Below w.heap.size w w':=by
 obtain ⟨a0,a1,a2,a3⟩:=a
 obtain ⟨b0,b1,b2,b3⟩:=b
 unfold I4.val
 simp only
 by_cases h0:a0=b0
 ·have hA:depM (a0,a1,a2,a3) (b0,b1,b2,b3)=true:=by simp [depM,h0]<;>omega
  have qh0:(a0 == b0)=true:=by simp [h0]
  rw [hA]
  clear hA h0
  go_enter Tryd.func118,Tryd.ntmps118
  go_wp2
  go_ret
  exact ⟨rfl,by go_grown⟩
 ·by_cases h3:a2=1
  ·by_cases h4:b2=1
   ·by_cases h1:0≤a3
    ·by_cases h2:a3=b3
     ·have hA:depM (a0,a1,a2,a3) (b0,b1,b2,b3)=false:=by simp [depM,h0,h3,h4,h1,h2]<;>omega
      have qh0:(a0 == b0)=false:=by simp [h0]
      have qh3:(a2 == 1)=true:=by simp [h3]
      have rh3:(a2 != 1)=false:=by simp [h3]
      have qh4:(b2 == 1)=true:=by simp [h4]
      have rh4:(b2 != 1)=false:=by simp [h4]
      have qh1:(decide (a3 ≥ 0))=true:=by simp;omega
      have qh2:(a3 == b3)=true:=by simp [h2]
      rw [hA]
      clear hA h0 h3 h4 h2
      go_enter Tryd.func118,Tryd.ntmps118
      go_wp2
      go_ret
      exact ⟨rfl,by go_grown⟩
     ·have hA:depM (a0,a1,a2,a3) (b0,b1,b2,b3)=false:=by simp [depM,h0,h3,h4,h1,h2]<;>omega
      have qh0:(a0 == b0)=false:=by simp [h0]
      have qh3:(a2 == 1)=true:=by simp [h3]
      have rh3:(a2 != 1)=false:=by simp [h3]
      have qh4:(b2 == 1)=true:=by simp [h4]
      have rh4:(b2 != 1)=false:=by simp [h4]
      have qh1:(decide (a3 ≥ 0))=true:=by simp;omega
      have qh2:(a3 == b3)=false:=by simp [h2]
      rw [hA]
      clear hA h0 h3 h4 h2
      go_enter Tryd.func118,Tryd.ntmps118
      go_wp2
      go_ret
      exact ⟨rfl,by go_grown⟩
    ·have hA:depM (a0,a1,a2,a3) (b0,b1,b2,b3)=false:=by simp [depM,h0,h3,h4,h1]<;>omega
     have qh0:(a0 == b0)=false:=by simp [h0]
     have qh3:(a2 == 1)=true:=by simp [h3]
     have rh3:(a2 != 1)=false:=by simp [h3]
     have qh4:(b2 == 1)=true:=by simp [h4]
     have rh4:(b2 != 1)=false:=by simp [h4]
     have qh1:(decide (a3 ≥ 0))=false:=by simp;omega
     rw [hA]
     clear hA h0 h3 h4
     go_enter Tryd.func118,Tryd.ntmps118
     go_wp2
     go_ret
     exact ⟨rfl,by go_grown⟩
   ·by_cases h1:0≤a3
    ·by_cases h2:a3=b3
     ·have hA:depM (a0,a1,a2,a3) (b0,b1,b2,b3)=true:=by simp [depM,h0,h3,h4,h1,h2]<;>omega
      have qh0:(a0 == b0)=false:=by simp [h0]
      have qh3:(a2 == 1)=true:=by simp [h3]
      have rh3:(a2 != 1)=false:=by simp [h3]
      have qh4:(b2 == 1)=false:=by simp [h4]
      have rh4:(b2 != 1)=true:=by simp [h4]
      have qh1:(decide (a3 ≥ 0))=true:=by simp;omega
      have qh2:(a3 == b3)=true:=by simp [h2]
      rw [hA]
      clear hA h0 h3 h4 h2
      go_enter Tryd.func118,Tryd.ntmps118
      go_wp2
      go_ret
      exact ⟨rfl,by go_grown⟩
     ·have hA:depM (a0,a1,a2,a3) (b0,b1,b2,b3)=false:=by simp [depM,h0,h3,h4,h1,h2]<;>omega
      have qh0:(a0 == b0)=false:=by simp [h0]
      have qh3:(a2 == 1)=true:=by simp [h3]
      have rh3:(a2 != 1)=false:=by simp [h3]
      have qh4:(b2 == 1)=false:=by simp [h4]
      have rh4:(b2 != 1)=true:=by simp [h4]
      have qh1:(decide (a3 ≥ 0))=true:=by simp;omega
      have qh2:(a3 == b3)=false:=by simp [h2]
      rw [hA]
      clear hA h0 h3 h4 h2
      go_enter Tryd.func118,Tryd.ntmps118
      go_wp2
      go_ret
      exact ⟨rfl,by go_grown⟩
    ·have hA:depM (a0,a1,a2,a3) (b0,b1,b2,b3)=false:=by simp [depM,h0,h3,h4,h1]<;>omega
     have qh0:(a0 == b0)=false:=by simp [h0]
     have qh3:(a2 == 1)=true:=by simp [h3]
     have rh3:(a2 != 1)=false:=by simp [h3]
     have qh4:(b2 == 1)=false:=by simp [h4]
     have rh4:(b2 != 1)=true:=by simp [h4]
     have qh1:(decide (a3 ≥ 0))=false:=by simp;omega
     rw [hA]
     clear hA h0 h3 h4
     go_enter Tryd.func118,Tryd.ntmps118
     go_wp2
     go_ret
     exact ⟨rfl,by go_grown⟩
  ·by_cases h1:0≤a3
   ·by_cases h2:a3=b3
    ·have hA:depM (a0,a1,a2,a3) (b0,b1,b2,b3)=true:=by simp [depM,h0,h3,h1,h2]<;>omega
     have qh0:(a0 == b0)=false:=by simp [h0]
     have qh3:(a2 == 1)=false:=by simp [h3]
     have rh3:(a2 != 1)=true:=by simp [h3]
     have qh1:(decide (a3 ≥ 0))=true:=by simp;omega
     have qh2:(a3 == b3)=true:=by simp [h2]
     rw [hA]
     clear hA h0 h3 h2
     go_enter Tryd.func118,Tryd.ntmps118
     go_wp2
     go_ret
     exact ⟨rfl,by go_grown⟩
    ·have hA:depM (a0,a1,a2,a3) (b0,b1,b2,b3)=false:=by simp [depM,h0,h3,h1,h2]<;>omega
     have qh0:(a0 == b0)=false:=by simp [h0]
     have qh3:(a2 == 1)=false:=by simp [h3]
     have rh3:(a2 != 1)=true:=by simp [h3]
     have qh1:(decide (a3 ≥ 0))=true:=by simp;omega
     have qh2:(a3 == b3)=false:=by simp [h2]
     rw [hA]
     clear hA h0 h3 h2
     go_enter Tryd.func118,Tryd.ntmps118
     go_wp2
     go_ret
     exact ⟨rfl,by go_grown⟩
   ·have hA:depM (a0,a1,a2,a3) (b0,b1,b2,b3)=false:=by simp [depM,h0,h3,h1]<;>omega
    have qh0:(a0 == b0)=false:=by simp [h0]
    have qh3:(a2 == 1)=false:=by simp [h3]
    have rh3:(a2 != 1)=true:=by simp [h3]
    have qh1:(decide (a3 ≥ 0))=false:=by simp;omega
    rw [hA]
    clear hA h0 h3
    go_enter Tryd.func118,Tryd.ntmps118
    go_wp2
    go_ret
    exact ⟨rfl,by go_grown⟩


def flat4:List I4→List Value
 | []=>[]
 | x::xs=>[.int .i64 x.1,.int .i64 x.2.1,.int .i64 x.2.2.1,.int .i64 x.2.2.2]++flat4 xs
theorem flat4_snoc (es:List I4) (x:I4):flat4 (es++[x])=flat4 es++[.int .i64 x.1,.int .i64 x.2.1,.int .i64 x.2.2.1,.int .i64 x.2.2.2]:=by
 induction es with
 | nil=>rfl
 | cons y ys ih=>simp only [List.cons_append,flat4,ih,List.append_assoc]
theorem flat4_len:∀ xs:List I4,(flat4 xs).length=xs.length*4
 | []=>rfl
 | x::xs=>by simp only [flat4,List.length_append,flat4_len xs,List.length_cons,List.length_nil];omega
theorem flat4_at:∀ (xs:List I4) (t:Nat),t<xs.length→(flat4 xs)[t*4]?=some (.int .i64 (xs.getD t (0,0,0,0)).1)∧(flat4 xs)[t*4+1]?=some (.int .i64 (xs.getD t (0,0,0,0)).2.1)∧(flat4 xs)[t*4+2]?=some (.int .i64 (xs.getD t (0,0,0,0)).2.2.1)∧(flat4 xs)[t*4+3]?=some (.int .i64 (xs.getD t (0,0,0,0)).2.2.2)
 | [],t,h=>by simp at h
 | x::xs,0,_=>⟨rfl,rfl,rfl,rfl⟩
 | x::xs,t+1,h=>by
  have ih:=flat4_at xs t (by simpa using h)
  have e:(t+1)*4=t*4+1+1+1+1:=by omega
  simp only [flat4,List.cons_append,List.nil_append,e,List.getElem?_cons_succ,List.getD_cons_succ]
  exact ih
def Evs (w:World) (a:Option Addr) (n:Nat) (xs:List I4):Prop:=xs.length=n∧n≤maxLen∧(n=0∨∃ g,a=some ⟨g,0,none⟩∧g<w.heap.size∧∀ t,t<n→w.cell? ⟨g,t*4,none⟩=some (.int .i64 (xs.getD t (0,0,0,0)).1)∧w.cell? ⟨g,t*4+1,none⟩=some (.int .i64 (xs.getD t (0,0,0,0)).2.1)∧w.cell? ⟨g,t*4+2,none⟩=some (.int .i64 (xs.getD t (0,0,0,0)).2.2.1)∧w.cell? ⟨g,t*4+3,none⟩=some (.int .i64 (xs.getD t (0,0,0,0)).2.2.2))
theorem evs_slice {w:World} {B:Nat} {v:Value} {xs:List I4} (h:w.ownsRow B 154 4 v xs.length (flat4 xs)):∃ a cap,v=.slice a xs.length cap∧Evs w a xs.length xs:=by
 rcases h.2 with ⟨rfl,h0⟩ | ⟨g,cap,cur,hv,_,_,hnc,hcm,_⟩
 ·exact ⟨none,0,by rw [h0],rfl,by rw [h0];omega,.inl h0⟩
 ·subst hv
  refine ⟨_,cap,rfl,rfl,by omega,.inr ⟨g,rfl,(h.lt g rfl).2,fun t ht=>?_⟩⟩
  obtain ⟨a0,a1,a2,a3⟩:=flat4_at xs t ht
  exact ⟨(h.cellAt _ (by omega)).trans a0,(h.cellAt _ (by omega)).trans a1,(h.cellAt _ (by omega)).trans a2,(h.cellAt _ (by omega)).trans a3⟩
theorem Evs.below {w w':World} {a:Option Addr} {n:Nat} {xs:List I4} (h:Evs w a n xs) (hb:Below w.heap.size w w'):Evs w' a n xs:=by
 obtain ⟨h1,h2,h3 | ⟨g,rfl,hl,hc⟩⟩:=h
 ·exact ⟨h1,h2,.inl h3⟩
 ·refine ⟨h1,h2,.inr ⟨g,rfl,Nat.lt_of_lt_of_le hl hb.size,fun t ht=>?_⟩⟩
  obtain ⟨c0,c1,c2,c3⟩:=hc t ht
  exact ⟨(hb.cell (p:=⟨g,_,none⟩) hl).trans c0,(hb.cell (p:=⟨g,_,none⟩) hl).trans c1,(hb.cell (p:=⟨g,_,none⟩) hl).trans c2,(hb.cell (p:=⟨g,_,none⟩) hl).trans c3⟩


theorem grown_box {a b c:World} {r:Option Nat} {j:Nat} (h:a.grownBy b r) (k:b.grownBy c (some j)) (hj:a.heap.size≤j):a.grownBy c r:=
 ⟨k.os.trans h.os,k.tape.trans h.tape,k.output.trans h.output,Nat.le_trans h.size k.size,fun i hi hr=>(k.block i (Nat.lt_of_lt_of_le hi h.size) (by simp;omega)).trans (h.block i hi hr)⟩

theorem take_is {w:World} {g:Nat} {cs:Sl × Sl × Sl} {rows:List (List I3)} {m:V4} (h:MachAt w g cs rows m) (hp:progOk rows=true) (hs:shapeOk m=true) {k:Nat} (hk:k<3) (hd:doneM rows m k=false) :
  Calls Tryd.prog 101 #[.pointer (some ⟨g,0,none⟩),.int .i64 k] w fun e w'=>e=.returned (.agg #[.int .i64 (stepM m (insM rows m k) k).2,.int .i64 k,.int .i64 (m.1.getD k 0)])∧Blk w' g 69 (machCells cs.1.val cs.2.1.val cs.2.2.val (stepM m (insM rows m k) k).1)∧w.grownBy w' (some g):=by
 have kS:=fun W (hM:MachAt W g cs rows m)=>step_is hM hp hs hk hd
 generalize stepM m (insM rows m k) k=zf at *
 obtain ⟨z,f⟩:=zf
 simp only at kS ⊢
 have hk3:(k:Int)<3:=by omega
 obtain ⟨pc,hpc⟩:∃ pc,pc=m.1.getD k 0:=⟨_,rfl⟩
 rw [← hpc]
 have HPc:Hid (pc=m.1.getD k 0):=hpc
 clear hd hp hs hpc
 have hgl:=h.1.lt
 have pB:=Blk.new w 40 [.int .i64 0,.int .i64 0,.int .i64 0]
 have bz:Below w.heap.size w (w.alloc (.cells #[.int .i64 0,.int .i64 0,.int .i64 0] 40)):=by go_grown
 replace h:=h.below bz
 have r1:=h.pc hk
 rw [← HPc.out] at r1
 clear HPc
 have kSx:=kS _ h
 clear kS h
 go_enter Tryd.func101,Tryd.ntmps101
 go_wp2_with fail
 refine kSx.mono ?_
 rintro e w2 ⟨rfl,hM2,g2⟩
 have gz:w.grownBy w2 (some g):=grown_tr (grown_new bz) g2
 have pB2:=pB.kept g2 (by simp;omega)
 have hsz:=gz.size
 clear kSx g2 bz r1 pB
 obtain ⟨GB,hGB⟩:∃ GB,GB=w.heap.size:=⟨_,rfl⟩
 have hwj:w.heap.size≤GB:=by omega
 rw [← hGB] at pB2 hgl ⊢
 clear hGB hsz
 go_wp2_with (refine wpList_store_blk rfl 40 _ _ rfl GB [.int .i64 f,.int .i64 k,.int .i64 pc] rfl rfl pB2 (by kernel_rfl) rfl rfl ?_)
 intro W9 pR2 g3
 have hM3:=hM2.kept g3 (by simp;omega)
 go_wp2
 refine bodyPost_ret (results_blk1 Tryd.results101 _ _ _ _ _ _ rfl pR2.out Tryd.underlying40 rfl (by kernel_rfl)) rfl ?_
 exact ⟨rfl,hM3,grown_box gz g3 hwj⟩

namespace Rp
open Go.RowKit
set_option linter.unusedVariables false
set_option linter.unusedSimpArgs false
variable {fv : Value}

def machR (fv c0 c1 c2:Value) (m:V4):List Value:=
 [c0,.int .i64 (m.1.getD 0 0),.int .i64 (m.2.2.2.getD 0 0),.int .i64 (m.2.2.2.getD 1 0),
  c1,.int .i64 (m.1.getD 1 0),.int .i64 (m.2.2.2.getD 2 0),.int .i64 (m.2.2.2.getD 3 0),
  c2,.int .i64 (m.1.getD 2 0),.int .i64 (m.2.2.2.getD 4 0),.int .i64 (m.2.2.2.getD 5 0),
  .int .i64 (m.2.1.getD 0 0),.int .i64 (m.2.1.getD 1 0),.int .i64 (m.2.1.getD 2 0),.int .i64 (m.2.1.getD 3 0),
  .int .i64 (m.2.2.1.getD 0 0),.int .i64 (m.2.2.1.getD 1 0),fv]
section
variable (c0 c1 c2 : Value) (m : V4)
end
section
variable (c0 c1 c2 : Value) (m : V4) (h : LenOk m)
include h
end
def MachAt (fv:Value) (w:World) (g:Nat) (cs:Sl × Sl × Sl) (rows:List (List I3)) (m:V4):Prop:=
 Blk w g 71 (machR fv cs.1.val cs.2.1.val cs.2.2.val m)∧∀ k,k<3→Instrs w (slK cs k).1 (slK cs k).2.1 (slK cs k).2.2 (codeM rows k)
theorem MachAt.below {w w':World} {g:Nat} {cs:Sl × Sl × Sl} {rows:List (List I3)} {m:V4} (h:MachAt fv w g cs rows m) (hb:Below w.heap.size w w'):MachAt fv w' g cs rows m:=⟨h.1.below hb,fun k hk=>(h.2 k hk).below hb⟩
end Rp
end Go.Proofs.YtjgffnlmjmibgaaDoor
