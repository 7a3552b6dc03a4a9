/-
  Joined: RqE, SpcO.
-/
import Derived.Carry
import Derived.Test.YtifoggpohlegmaaGreatDoorS36

namespace Go.Proofs.YtifoggpohlegmaaGreatDoor
set_option maxRecDepth 100000
set_option maxHeartbeats 16000000
namespace Rq
open Go.RowKit
set_option linter.unusedVariables false
set_option linter.unusedSimpArgs false

def MachAt (w:World) (g:Nat) (cs:Sl × Sl × Sl) (rows:List (List I3)) (m:V4):Prop:=
 (∃ kv fv bv mv:Value,Blk w g 111 (kv::(machCells cs.1.val cs.2.1.val cs.2.2.val m++[fv,bv,mv])))∧∀ k,k<3→Instrs w (slK cs k).1 (slK cs k).2.1 (slK cs k).2.2 (codeM rows k)
theorem MachAt.below {w w':World} {g:Nat} {cs:Sl × Sl × Sl} {rows:List (List I3)} {m:V4} (h:MachAt w g cs rows m) (hb:Below w.heap.size w w'):MachAt w' g cs rows m:=by
 obtain ⟨⟨kv,fv,bv,mv,h1⟩,h2⟩:=h
 exact ⟨⟨kv,fv,bv,mv,h1.below hb⟩,fun k hk=>(h2 k hk).below hb⟩
theorem MachAt.at18 {w:World} {g:Nat} {cs:Sl × Sl × Sl} {rows:List (List I3)} {m:V4} (h:MachAt w g cs rows m) {i:Nat} (hi:i<18):w.cell? ⟨g,1+i,none⟩=(machCells cs.1.val cs.2.1.val cs.2.2.val m)[i]?:=by
 obtain ⟨⟨kv,fv,bv,mv,h1⟩,_⟩:=h
 rw [h1.cell,Nat.add_comm 1 i,List.getElem?_cons_succ,List.getElem?_append_left (show i<(machCells cs.1.val cs.2.1.val cs.2.2.val m).length from hi)]
theorem MachAt.code {w:World} {g:Nat} {cs:Sl × Sl × Sl} {rows:List (List I3)} {m:V4} (h:MachAt w g cs rows m) {k:Nat} (hk:k<3):w.cell? ⟨g,1+k*4,none⟩=some (.slice (slK cs k).1 (slK cs k).2.1 (slK cs k).2.2):=by
 rw [h.at18 (by omega),mc_code _ _ _ _ hk,codeV_sl cs hk];rfl
theorem MachAt.pc {w:World} {g:Nat} {cs:Sl × Sl × Sl} {rows:List (List I3)} {m:V4} (h:MachAt w g cs rows m) {k:Nat} (hk:k<3):w.cell? ⟨g,1+k*4+1,none⟩=some (.int .i64 (m.1.getD k 0)):=by
 rw [show 1+k*4+1=1+(k*4+1) by omega,h.at18 (by omega),mc_pc _ _ _ _ hk]
theorem MachAt.held {w:World} {g:Nat} {cs:Sl × Sl × Sl} {rows:List (List I3)} {m:V4} (h:MachAt w g cs rows m) {a:Nat} (ha:a<2):w.cell? ⟨g,17+a,none⟩=some (.int .i64 (m.2.2.1.getD a 0)):=by
 rw [show 17+a=1+(16+a) by omega,h.at18 (by omega),mc_held _ _ _ _ ha]
theorem waits_done (g k:Nat) (a:Option Addr) (n c:Nat) (pc:Int) (w:World) (hk:k<3) (h0:w.cell? ⟨g,1+k*4,none⟩=some (.slice a n c)) (h1:w.cell? ⟨g,1+k*4+1,none⟩=some (.int .i64 pc)) (hd:(n:Int)≤pc) :
  Calls Tryz.prog 75 #[.pointer (some ⟨g,1,none⟩),.int .i64 k] w fun e w'=>e=.returned (.bool false)∧Below w.heap.size w w':=by
 have kD:=done_is g (1+k*4) a n c pc w h0 h1
 rw [decide_eq_true hd] at kD
 have hk3:(k:Int)<3:=by omega
 go_enter Tryz.func75,Tryz.ntmps75
 go_wp2_with fail
 refine kD.mono ?_
 rintro e w1 ⟨rfl,d,rfl⟩
 go_wp2
 go_ret
 exact ⟨rfl,below_dN _⟩
theorem waits_free (g k p b off:Nat) (n c:Nat) (x0 x1 x2:Int) (w:World) (hk:k<3) (hd:p<n)
  (h0:w.cell? ⟨g,1+k*4,none⟩=some (.slice (some ⟨b,off,none⟩) n c)) (h1:w.cell? ⟨g,1+k*4+1,none⟩=some (.int .i64 p)) (c0:w.cell? ⟨b,off+p*3,none⟩=some (.int .i64 x0)) (c1:w.cell? ⟨b,off+p*3+1,none⟩=some (.int .i64 x1)) (c2:w.cell? ⟨b,off+p*3+2,none⟩=some (.int .i64 x2)) (hx:x0≠5) :
  Calls Tryz.prog 75 #[.pointer (some ⟨g,1,none⟩),.int .i64 k] w fun e w'=>e=.returned (.bool false)∧Below w.heap.size w w':=by
 have kD:=done_is g (1+k*4) (some ⟨b,off,none⟩) n c p w h0 h1
 rw [decide_eq_false (by omega)] at kD
 have hk3:(k:Int)<3:=by omega
 have hpn:(p:Int)<(n:Int):=by omega
 go_enter Tryz.func75,Tryz.ntmps75
 go_wp2_with fail
 refine kD.mono ?_
 rintro e w1 ⟨rfl,d,rfl⟩
 clear kD
 go_wp2_with fail
 replace h0:(w.drewN d).cell? ⟨g,1+k*4,none⟩=some (.slice (some ⟨b,off,none⟩) n c):=h0
 replace h1:(w.drewN d).cell? ⟨g,1+k*4+1,none⟩=some (.int .i64 p):=h1
 replace c0:(w.drewN d).cell? ⟨b,off+p*3,none⟩=some (.int .i64 x0):=c0
 replace c1:(w.drewN d).cell? ⟨b,off+p*3+1,none⟩=some (.int .i64 x1):=c1
 replace c2:(w.drewN d).cell? ⟨b,off+p*3+2,none⟩=some (.int .i64 x2):=c2
 have bw:Below w.heap.size w (w.drewN d):=below_dN _
 generalize w.drewN d=W at *
 refine wp_region_held_drew (S:=(fun w'=>w'.cell? ⟨g,1+k*4,none⟩=some (.slice (some ⟨b,off,none⟩) n c)∧w'.cell? ⟨g,1+k*4+1,none⟩=some (.int .i64 p)∧w'.cell? ⟨b,off+p*3,none⟩=some (.int .i64 x0)∧w'.cell? ⟨b,off+p*3+1,none⟩=some (.int .i64 x1)∧w'.cell? ⟨b,off+p*3+2,none⟩=some (.int .i64 x2))) (by kernel_rfl) ⟨h0,h1,c0,c1,c2⟩ (fun hS0=>?_)
 refine tkm 0 14 (.pointer (some ⟨g,1+k*4,none⟩)) ?_
 refine tkm 1 15 (.pointer (some ⟨g,1+k*4,none⟩)) ?_
 refine tkm 2 16 (.pointer (some ⟨g,1+k*4,none⟩)) ?_
 refine tkm 3 17 (.slice (some ⟨b,off,none⟩) n c) ?_
 refine tkm 4 18 (.pointer (some ⟨g,1+k*4,none⟩)) ?_
 refine tkm 5 19 (.pointer (some ⟨g,1+k*4,none⟩)) ?_
 refine tkm 6 20 (.pointer (some ⟨g,1+k*4+1,none⟩)) ?_
 refine tkm 7 21 (.int .i64 p) ?_
 refine tkm 8 22 (.pointer (some ⟨b,off+p*3,none⟩)) ?_
 refine tkm 9 23 (.agg #[.int .i64 x0,.int .i64 x1,.int .i64 x2]) ?_
 refine tkr 10 6 (fun K hK=>?_)
 have hal:Below W.drew.heap.size W.drew (W.drew.alloc (.cells #[.int .i64 0,.int .i64 0,.int .i64 0] 159)):=by go_grown
 go_simp
 refine hK.out _ _ ?_ (fun hS1=>?_)
 ·exact ⟨cells_kept hal _ _ hS0.1,cells_kept hal _ _ hS0.2.1,cells_kept hal _ _ hS0.2.2.1,cells_kept hal _ _ hS0.2.2.2.1,cells_kept hal _ _ hS0.2.2.2.2⟩
 clear hK
 try simp only [Act.put,tka,tkb,tkc]
 refine tkz 11 (fun K hK=>?_)
 have hal2:Below W.drew.heap.size W.drew (W.drew.alloc (.cells #[.int .i64 x0,.int .i64 x1,.int .i64 x2] 159)):=by go_grown
 go_simp
 refine hK.out _ _ ?_ (fun hS2=>?_)
 ·exact ⟨cells_kept hal2 _ _ hS0.1,cells_kept hal2 _ _ hS0.2.1,cells_kept hal2 _ _ hS0.2.2.1,cells_kept hal2 _ _ hS0.2.2.2.1,cells_kept hal2 _ _ hS0.2.2.2.2⟩
 clear hK
 try simp only [Act.put,tka,tkb,tkc]
 refine wpAnyH_done (by kernel_rfl) ?_ _
 replace bw:Below w.heap.size w (W.alloc (.cells #[.int .i64 x0,.int .i64 x1,.int .i64 x2] 159)).drew:=bel_trans bw (by go_grown)
 have pX:Blk (W.alloc (.cells #[.int .i64 x0,.int .i64 x1,.int .i64 x2] 159)).drew W.heap.size 159 [.int .i64 x0,.int .i64 x1,.int .i64 x2]:=Blk.new W 159 [.int .i64 x0,.int .i64 x1,.int .i64 x2]
 have q0:=pX.cell 0
 have q1:=pX.cell 1
 simp only [List.getElem?_cons_zero,List.getElem?_cons_succ] at q0 q1
 clear hal hal2 hS0 hS1 h0 h1 c0 c1 c2 pX
 clear hS2
 have hx5:(x0 == 5)=false:=by simp [hx]
 go_wp2_with fail
 generalize (W.alloc (.cells #[.int .i64 x0,.int .i64 x1,.int .i64 x2] 159)).drew=W2 at *
 generalize W.heap.size=gx at *
 go_quiet (fail)
 have bz:Below w.heap.size w (W2.drewN nq):=bel_trans bw (below_dN _)
 go_wp2
 go_ret
 exact ⟨rfl,bz⟩
theorem waits_lock (g k p b off:Nat) (n c:Nat) (x2:Int) (q:Nat) (hv:Int) (w:World) (hk:k<3) (hd:p<n)
  (h0:w.cell? ⟨g,1+k*4,none⟩=some (.slice (some ⟨b,off,none⟩) n c)) (h1:w.cell? ⟨g,1+k*4+1,none⟩=some (.int .i64 p)) (c0:w.cell? ⟨b,off+p*3,none⟩=some (.int .i64 5)) (c1:w.cell? ⟨b,off+p*3+1,none⟩=some (.int .i64 q)) (c2:w.cell? ⟨b,off+p*3+2,none⟩=some (.int .i64 x2)) (h6:w.cell? ⟨g,17+q,none⟩=some (.int .i64 hv)) (hq:q<2) (z:Bool) (hz:z=!decide (hv=0)) :
  Calls Tryz.prog 75 #[.pointer (some ⟨g,1,none⟩),.int .i64 k] w fun e w'=>e=.returned (.bool z)∧Below w.heap.size w w':=by
 have kD:=done_is g (1+k*4) (some ⟨b,off,none⟩) n c p w h0 h1
 rw [decide_eq_false (by omega)] at kD
 have hk3:(k:Int)<3:=by omega
 have hpn:(p:Int)<(n:Int):=by omega
 go_enter Tryz.func75,Tryz.ntmps75
 go_wp2_with fail
 refine kD.mono ?_
 rintro e w1 ⟨rfl,d,rfl⟩
 clear kD
 go_wp2_with fail
 replace h0:(w.drewN d).cell? ⟨g,1+k*4,none⟩=some (.slice (some ⟨b,off,none⟩) n c):=h0
 replace h1:(w.drewN d).cell? ⟨g,1+k*4+1,none⟩=some (.int .i64 p):=h1
 replace c0:(w.drewN d).cell? ⟨b,off+p*3,none⟩=some (.int .i64 5):=c0
 replace c1:(w.drewN d).cell? ⟨b,off+p*3+1,none⟩=some (.int .i64 q):=c1
 replace c2:(w.drewN d).cell? ⟨b,off+p*3+2,none⟩=some (.int .i64 x2):=c2
 replace h6:(w.drewN d).cell? ⟨g,17+q,none⟩=some (.int .i64 hv):=h6
 have bw:Below w.heap.size w (w.drewN d):=below_dN _
 generalize w.drewN d=W at *
 refine wp_region_held_drew (S:=(fun w'=>w'.cell? ⟨g,1+k*4,none⟩=some (.slice (some ⟨b,off,none⟩) n c)∧w'.cell? ⟨g,1+k*4+1,none⟩=some (.int .i64 p)∧w'.cell? ⟨b,off+p*3,none⟩=some (.int .i64 5)∧w'.cell? ⟨b,off+p*3+1,none⟩=some (.int .i64 q)∧w'.cell? ⟨b,off+p*3+2,none⟩=some (.int .i64 x2)∧w'.cell? ⟨g,17+q,none⟩=some (.int .i64 hv))) (by kernel_rfl) ⟨h0,h1,c0,c1,c2,h6⟩ (fun hS0=>?_)
 refine tkm 0 14 (.pointer (some ⟨g,1+k*4,none⟩)) ?_
 refine tkm 1 15 (.pointer (some ⟨g,1+k*4,none⟩)) ?_
 refine tkm 2 16 (.pointer (some ⟨g,1+k*4,none⟩)) ?_
 refine tkm 3 17 (.slice (some ⟨b,off,none⟩) n c) ?_
 refine tkm 4 18 (.pointer (some ⟨g,1+k*4,none⟩)) ?_
 refine tkm 5 19 (.pointer (some ⟨g,1+k*4,none⟩)) ?_
 refine tkm 6 20 (.pointer (some ⟨g,1+k*4+1,none⟩)) ?_
 refine tkm 7 21 (.int .i64 p) ?_
 refine tkm 8 22 (.pointer (some ⟨b,off+p*3,none⟩)) ?_
 refine tkm 9 23 (.agg #[.int .i64 5,.int .i64 q,.int .i64 x2]) ?_
 refine tkr 10 6 (fun K hK=>?_)
 have hal:Below W.drew.heap.size W.drew (W.drew.alloc (.cells #[.int .i64 0,.int .i64 0,.int .i64 0] 159)):=by go_grown
 go_simp
 refine hK.out _ _ ?_ (fun hS1=>?_)
 ·exact ⟨cells_kept hal _ _ hS0.1,cells_kept hal _ _ hS0.2.1,cells_kept hal _ _ hS0.2.2.1,cells_kept hal _ _ hS0.2.2.2.1,cells_kept hal _ _ hS0.2.2.2.2.1,cells_kept hal _ _ hS0.2.2.2.2.2⟩
 clear hK
 try simp only [Act.put,tka,tkb,tkc]
 refine tkz 11 (fun K hK=>?_)
 have hal2:Below W.drew.heap.size W.drew (W.drew.alloc (.cells #[.int .i64 5,.int .i64 q,.int .i64 x2] 159)):=by go_grown
 go_simp
 refine hK.out _ _ ?_ (fun hS2=>?_)
 ·exact ⟨cells_kept hal2 _ _ hS0.1,cells_kept hal2 _ _ hS0.2.1,cells_kept hal2 _ _ hS0.2.2.1,cells_kept hal2 _ _ hS0.2.2.2.1,cells_kept hal2 _ _ hS0.2.2.2.2.1,cells_kept hal2 _ _ hS0.2.2.2.2.2⟩
 clear hK
 try simp only [Act.put,tka,tkb,tkc]
 refine wpAnyH_done (by kernel_rfl) ?_ _
 replace bw:Below w.heap.size w (W.alloc (.cells #[.int .i64 5,.int .i64 q,.int .i64 x2] 159)).drew:=bel_trans bw (by go_grown)
 have pX:Blk (W.alloc (.cells #[.int .i64 5,.int .i64 q,.int .i64 x2] 159)).drew W.heap.size 159 [.int .i64 5,.int .i64 q,.int .i64 x2]:=Blk.new W 159 [.int .i64 5,.int .i64 q,.int .i64 x2]
 have q0:=pX.cell 0
 have q1:=pX.cell 1
 simp only [List.getElem?_cons_zero,List.getElem?_cons_succ] at q0 q1
 clear hal hal2 hS0 hS1 h0 h1 c0 c1 c2 h6 pX
 replace hS2:=hS2.2.2.2.2.2
 have hq2:(q:Int)<2:=by omega
 have hv0:(hv != 0)=z:=by rw [hz];by_cases h:hv=0<;>simp [h]
 clear hz
 go_wp2_with fail
 generalize (W.alloc (.cells #[.int .i64 5,.int .i64 q,.int .i64 x2] 159)).drew=W2 at *
 generalize W.heap.size=gx at *
 go_quiet (fail)
 have bz:Below w.heap.size w (W2.drewN nq):=bel_trans bw (below_dN _)
 go_wp2
 go_ret
 exact ⟨rfl,bz⟩
theorem doneT_is {w:World} {g:Nat} {cs:Sl × Sl × Sl} {rows:List (List I3)} {m:V4} (h:MachAt w g cs rows m) {k:Nat} (hk:k<3) :
  Calls Tryz.prog 74 #[.pointer (some ⟨g,1+k*4,none⟩)] w fun e w'=>e=.returned (.bool (doneM rows m k))∧∃ d,w'=w.drewN d:=by
 have hl:=(h.2 k hk).1
 have:=done_is g (1+k*4) _ _ _ _ w (h.code hk) (h.pc hk)
 unfold doneM
 rw [hl]
 exact this
theorem waits_is {w:World} {g:Nat} {cs:Sl × Sl × Sl} {rows:List (List I3)} {m:V4} (h:MachAt w g cs rows m) (hp:progOk rows=true) (hs:shapeOk m=true) {k:Nat} (hk:k<3) :
  Calls Tryz.prog 75 #[.pointer (some ⟨g,1,none⟩),.int .i64 k] w fun e w'=>e=.returned (.bool (waitM rows m k))∧Below w.heap.size w w':=by
 unfold waitM
 cases hd:doneM rows m k
 ·obtain ⟨p,ep,hlt,hi,hok⟩:=at_ins hp hs hk hd
  have h0:=h.code hk
  have h1:=h.pc hk
  rw [ep] at h1
  obtain ⟨b,off,ea,hpn,c0,c1,c2⟩:=ins_at (h.2 k hk) hlt
  rw [← hi] at c0 c1 c2
  rw [ea] at h0
  by_cases h5:(insM rows m k).1=5
  ·obtain ⟨q,hq,hq2⟩:=okI_lock hok h5
   rw [h5] at c0
   rw [hq] at c1
   have hh:=h.held hq2
   have e:atLock m (insM rows m k)=!decide (m.2.2.1.getD q 0=0):=by
    unfold atLock
    rw [h5,hq]
    simp
   rw [e]
   exact waits_lock g k p b off _ _ _ q _ w hk hpn h0 h1 c0 c1 c2 hh hq2 _ rfl
  ·have e:atLock m (insM rows m k)=false:=by unfold atLock;simp [h5]
   rw [e]
   exact waits_free g k p b off _ _ _ _ _ w hk hpn h0 h1 c0 c1 c2 h5
 ·have h0:=h.code hk
  have h1:=h.pc hk
  unfold doneM at hd
  simp only [decide_eq_true_eq] at hd
  rw [(h.2 k hk).1] at hd
  exact waits_done g k _ _ _ _ w hk h0 h1 hd
theorem enabled_is (g:Nat) (cs:Sl × Sl × Sl) (rows:List (List I3)) (m:V4) (w:World) (h:MachAt w g cs rows m) (hp:progOk rows=true) (hs:shapeOk m=true) :
  Calls Tryz.prog 72 #[.pointer (some ⟨g,1,none⟩)] w fun e w'=>(∃ s:Sl,e=.returned (.slice s.1 s.2.1 s.2.2)∧OwnI w' w.heap.size s (enabM rows m 3))∧Below w.heap.size w w':=by
 obtain ⟨i0,hi,hz0,hz1,hz2⟩:=info_parts info_int
 have kD:=fun (W:World) (hM:MachAt W g cs rows m) (k:Nat) (hk:k<3)=>doneT_is hM hk
 have kW:=fun (W:World) (hM:MachAt W g cs rows m) (k:Nat) (hk:k<3)=>waits_is hM hp hs hk
 go_enter Tryz.func72,Tryz.ntmps72
 go_wp2_with fail
 go_loopw [3,5] (fun so si wr=>∃ (k:Nat) (n:Nat) (v:Value),v=so∧k≤3∧si=.int .i64 k∧Hid (n=(enabM rows m k).length)∧wr.ownsRow w.heap.size 3 1 v n ((enabM rows m k).map (Value.int .i64))∧Below w.heap.size w wr) (fun _ si _=>3 - (intOf si).toNat)
 case atStart=>exact ⟨0,0,_,rfl,by omega,rfl,rfl,World.ownsRow_nil _ _ _ _,Below.refl _ _⟩
 case round =>
  obtain ⟨k,n,so,rfl,hk,rfl,HN,hr,hbw⟩:=hrel
  have hM:=h.below hbw
  by_cases hlt:k<3
  ·have hk3:(k:Int)<3:=by omega
   have kD1:=kD _ hM k hlt
   have hsz:=hbw.size
   cases hd:doneM rows m k
   ·rw [hd] at kD1
    go_wp2_with fail
    refine kD1.mono ?_
    rintro e w1 ⟨rfl,d,rfl⟩
    replace hM:MachAt (wr.drewN d) g cs rows m:=hM.below (below_dN _)
    replace hr:(wr.drewN d).ownsRow w.heap.size 3 1 so n ((enabM rows m k).map (Value.int .i64)):=hr
    replace hbw:Below w.heap.size w (wr.drewN d):=bel_trans hbw (below_dN _)
    replace hsz:w.heap.size≤(wr.drewN d).heap.size:=hsz
    generalize wr.drewN d=W1 at *
    have kW1:=kW _ hM k hlt
    clear kD1
    cases hw:waitM rows m k
    ·have hcan:canM rows m k=true:=by
      unfold waitM at hw
      unfold canM
      rw [hd] at hw ⊢
      simpa using hw
     rw [hw] at kW1
     go_wp2_with fail
     refine kW1.mono ?_
     rintro e w2 ⟨rfl,hb⟩
     replace hM:=hM.below hb
     replace hr:=owns_below hr hb
     replace hbw:=bel_trans hbw hb
     replace hsz:=hbw.size
     clear hb kW1
     have hn3:n≤3:=by have:=enabM_len rows m k;have:=HN.out;omega
     have HN2:Hid (n+1=(enabM rows m (k+1)).length):=by rw [Hid,enabM_yes hcan,List.length_append,← HN.out];rfl
     have HX:Hid (enabM rows m (k+1)=enabM rows m k++[(k:Int)]):=enabM_yes hcan
     go_wp2_with (at_builtin;refine wpList_append_own _ rfl _ _ 27 rfl w.heap.size 3 i0 (.int .i64 0) 1 8 Tryz.underlying27 hi hz0 hz1 hz2 rfl (by decide) _ _ _ rfl (hr.alloc _) ⟨w2.heap.size,0,none⟩ 1 1 [.int .i64 (k:Int)] rfl rfl (cell_one_new _ _ _) (by simp [Value.oneCell']) ?c3 ?c4 ?c5 ?_)
     case c3=>unfold maxLen;omega
     case c4=>omega
     case c5=>simp;omega
     intro v' wn hown' hgrow _
     have R:wn.ownsRow w.heap.size 3 1 v' (n+1) ((enabM rows m (k+1)).map (Value.int .i64)):=by
      rw [HX.out,List.map_append]
      exact hown'
     have bn:Below w.heap.size w wn:=(hbw.alloc hsz _).grown hgrow (by simp;omega) (fun k hk=>(hr.lt k hk).1)
     clear hown' hgrow hr hbw hM HX
     go_wp2
     go_roundw
     case rel=>exact ⟨k+1,n+1,_,rfl,by omega,by go_num,HN2,R,bn⟩
     case measure=>simp [intOf];omega
    ·have hcan:canM rows m k=false:=by
      unfold waitM at hw
      unfold canM
      rw [hd] at hw ⊢
      simpa using hw
     rw [hw] at kW1
     have HN2:Hid (n=(enabM rows m (k+1)).length):=by rw [Hid,enabM_no hcan];exact HN.out
     rw [← enabM_no hcan] at hr
     go_wp2_with fail
     refine kW1.mono ?_
     rintro e w2 ⟨rfl,hb⟩
     replace hM:=hM.below hb
     replace hr:=owns_below hr hb
     replace hbw:=bel_trans hbw hb
     clear hb kW1
     go_wp2
     go_roundw
     case rel=>exact ⟨k+1,n,_,rfl,by omega,by go_num,HN2,hr,hbw⟩
     case measure=>simp [intOf];omega
   ·have hcan:canM rows m k=false:=by unfold canM;rw [hd];rfl
    rw [hd] at kD1
    have HN2:Hid (n=(enabM rows m (k+1)).length):=by rw [Hid,enabM_no hcan];exact HN.out
    rw [← enabM_no hcan] at hr
    go_wp2_with fail
    refine kD1.mono ?_
    rintro e w1 ⟨rfl,d,rfl⟩
    replace hM:MachAt (wr.drewN d) g cs rows m:=hM.below (below_dN _)
    replace hr:(wr.drewN d).ownsRow w.heap.size 3 1 so n ((enabM rows m (k+1)).map (Value.int .i64)):=hr
    replace hbw:Below w.heap.size w (wr.drewN d):=bel_trans hbw (below_dN _)
    generalize wr.drewN d=W1 at *
    go_wp2
    go_roundw
    case rel=>exact ⟨k+1,n,_,rfl,by omega,by go_num,HN2,hr,hbw⟩
    case measure=>simp [intOf];omega
  ·obtain rfl:k=3:=by omega
   obtain ⟨a,c,rfl⟩:∃ a c,so=.slice a n c:=by
    rcases hr.2 with ⟨rfl,rfl⟩ | ⟨g',cap,cur,hv,_⟩
    ·exact ⟨none,0,rfl⟩
    ·exact ⟨_,cap,hv⟩
   clear kD kW hM
   go_wp2
   go_ret
   exact ⟨⟨(a,n,c),rfl,hr⟩,hbw⟩
theorem stuck_is (g:Nat) (cs:Sl × Sl × Sl) (rows:List (List I3)) (m:V4) (w:World) (h:MachAt w g cs rows m) (hp:progOk rows=true) (hs:shapeOk m=true) :
  Calls Tryz.prog 91 #[.pointer (some ⟨g,1,none⟩)] w fun e w'=>e=.returned (.bool (stuckM rows m))∧Below w.heap.size w w':=by
 have kE:=enabled_is g cs rows m w h hp hs
 have kD:=fun (W:World) (hM:MachAt W g cs rows m) (k:Nat) (hk:k<3)=>doneT_is hM hk
 obtain ⟨fin,hfin⟩:∃ fin,fin=stuckM rows m:=⟨_,rfl⟩
 rw [← hfin]
 have HF:Hid (fin=(decide (enabM rows m 3=[]) && leftM rows m 0)):=hfin
 clear hfin
 go_enter Tryz.func91,Tryz.ntmps91
 go_wp2_with fail
 refine kE.mono ?_
 rintro e w1 ⟨⟨⟨a,n,c⟩,rfl,ho⟩,hb⟩
 have hn:(enabM rows m 3).length=n:=by
  have:=ho.1
  simpa using this
 clear ho kE
 simp only
 by_cases h0:n=0
 ·subst h0
  have HL:Hid (fin=leftM rows m 0):=by rw [Hid,HF.out,List.eq_nil_of_length_eq_zero hn];rfl
  clear HF hn
  go_wp2_with fail
  go_loopw [8] (fun si wr=>∃ k:Nat,k≤3∧si=.int .i64 k∧Hid (fin=leftM rows m k)∧Below w.heap.size w wr) (fun si _=>3 - (intOf si).toNat)
  case atStart=>exact ⟨0,by omega,rfl,HL,hb⟩
  case round =>
   clear hb HL
   obtain ⟨k,hk,rfl,HL,hbw⟩:=hrel
   by_cases hlt:k<3
   ·have hk3:(k:Int)<3:=by omega
    have kD1:=kD _ (h.below hbw) k hlt
    have hst:=leftM_step rows m hlt
    have HS:Hid (leftM rows m k=(!doneM rows m k || leftM rows m (k+1))):=hst
    clear hst
    cases hd:doneM rows m k
    ·rw [hd] at kD1
     obtain rfl:fin=true:=by rw [HL.out,HS.out,hd];rfl
     clear HL HS
     go_wp2_with fail
     refine kD1.mono ?_
     rintro e w2 ⟨rfl,d,rfl⟩
     replace hbw:Below w.heap.size w (wr.drewN d):=bel_trans hbw (below_dN _)
     go_wp2
     go_ret
     exact ⟨rfl,hbw⟩
    ·rw [hd] at kD1
     have HL2:Hid (fin=leftM rows m (k+1)):=by rw [Hid,HL.out,HS.out,hd];rfl
     clear HL HS
     go_wp2_with fail
     refine kD1.mono ?_
     rintro e w2 ⟨rfl,d,rfl⟩
     replace hbw:Below w.heap.size w (wr.drewN d):=bel_trans hbw (below_dN _)
     generalize wr.drewN d=W1 at *
     go_wp2
     go_roundw
     case rel=>exact ⟨k+1,by omega,by go_num,HL2,hbw⟩
     case measure=>simp [intOf];omega
   ·obtain rfl:k=3:=by omega
    obtain rfl:fin=false:=HL.out.trans (leftM_end _ _)
    clear kD HL
    go_wp2
    go_ret
    exact ⟨rfl,hbw⟩
 ·obtain rfl:fin=false:=by
   rw [HF.out,decide_eq_false]
   ·rfl
   ·intro e
    rw [e] at hn
    exact h0 hn.symm
  have hpos:(0:Int)<(n:Int):=by omega
  clear HF hn kD
  go_wp2
  go_ret
  exact ⟨rfl,hb⟩

end Rq

open Go.RowKit
set_option linter.unusedVariables false
set_option linter.unusedSimpArgs false

theorem rows_of_codes6 {w:World} {a:Option Addr} {len cap:Nat} {rows:List (List I3)} (hC:Codes w a len cap rows) (hp:progOk rows=true):∃ cs,RowsAt w a cs rows:=(hC.rowsAt hp).2
def fullM (rows:List (List I3)) (z:V4):List (Rec6 V4):=srch (nxM rows) 2000 0 [(z,0,0)]
def SpcGot (e:Ending) (w w':World) (a:Option Addr) (rows:List (List I3)) (F:List (Rec6 V4)):Prop:=
 ∃ vs nb cs L,e=.returned (.tuple #[.agg #[vs,.map (some nb)],.int .i64 0])∧SpcD w' w.heap.size nb vs cs (mvsOf rows F) L L.length∧L.map (·.1)=F∧RowsAt w a cs rows∧Below w.heap.size w w'
structure OnSp (w wr:World) (X R nb:Nat) (vs:Value) (cs:Sl × Sl × Sl) (rows:List (List I3)) (z0:V4) (L:List (Rec6 V4 × Value)) (at9:Nat):Prop where
 sp:SpcD wr w.heap.size nb vs cs (mvsOf rows (fullM rows z0)) L at9
 bx:Blk wr X 106 [vs,.map (some nb)]
 br:Blk wr R 106 [.slice none 0 0,.map none]
 sh:Shaped (L.map (·.1))
 rn:srch (nxM rows) (2000 - at9) at9 (L.map (·.1))=fullM rows z0
 ln:L.length≤1+3*at9
 le:at9≤L.length
 a2:at9≤2000
 bl:Below w.heap.size w wr
theorem OnSp.fin {w wr:World} {X R nb:Nat} {vs:Value} {cs:Sl × Sl × Sl} {rows:List (List I3)} {z0:V4} {L:List (Rec6 V4 × Value)} {at9:Nat} (h:OnSp w wr X R nb vs cs rows z0 L at9) (hx:at9=L.length∨at9=2000):L.map (·.1)=fullM rows z0:=by
 have e:=h.rn
 rcases hx with hx | hx
 ·rw [srch_end (by simp;omega)] at e
  exact e
 ·subst hx
  exact e
theorem OnSp.go {w wr w':World} {X R nb:Nat} {vs vs':Value} {cs:Sl × Sl × Sl} {rows:List (List I3)} {z0:V4} {L L':List (Rec6 V4 × Value)} {at9:Nat} {r:Rec6 V4} {mv:Value} (h:OnSp w wr X R nb vs cs rows z0 L at9) (hr:L[at9]?=some (r,mv)) (hRX:R≠X) (hBX:w.heap.size≤X) (ha:at9<2000)
  (sp:SpcD w' w.heap.size nb vs' cs (mvsOf rows (fullM rows z0)) L' (at9+1)) (bx:Blk w' X 106 [vs',.map (some nb)]) (st:L'.map (·.1)=onS at9 (L.map (·.1)) (nxM rows r.1)) (sh:Shaped (L'.map (·.1))) (ln:L'.length≤L.length+3) (kp:KeptS wr w' X nb vs):OnSp w w' X R nb vs' cs rows z0 L' (at9+1):=by
 have hl:at9<L.length:=(List.getElem?_eq_some_iff.1 hr).1
 have hlm:at9<(L.map (·.1)).length:=by simpa using hl
 have hat:((L.map (·.1))[at9]'hlm)=r:=by
  have e:=(List.getElem?_eq_some_iff.1 hr).2
  simp [e]
 obtain ⟨D,hm,_⟩:=h.sp.map
 refine ⟨sp,bx,(kp.block R h.br.lt hRX (map_blk hm h.br) (own_ne_blk9 h.sp.row h.br (by decide))).trans h.br,sh,?_,by have:=h.ln;omega,?_,by omega,h.sp.belowK kp hBX h.bl⟩
 ·have e:=h.rn
  rw [show 2000 - at9=(1999 - at9)+1 by omega,srch_go hlm,hat,← st] at e
  rw [show 2000 - (at9+1)=1999 - at9 by omega]
  exact e
 ·have h2:=(onS_pre at9 (nxM rows r.1) (L.map (·.1))).length_le
  rw [← st] at h2
  simp at h2
  omega
theorem OnSp.pre {w wr:World} {X R nb:Nat} {vs:Value} {cs:Sl × Sl × Sl} {rows:List (List I3)} {z0:V4} {L:List (Rec6 V4 × Value)} {at9:Nat} {r:Rec6 V4} {mv:Value} (h:OnSp w wr X R nb vs cs rows z0 L at9) (hr:L[at9]?=some (r,mv)) (ha:at9<2000):onS at9 (L.map (·.1)) (nxM rows r.1) <+: fullM rows z0:=by
 have hl:at9<L.length:=(List.getElem?_eq_some_iff.1 hr).1
 have hlm:at9<(L.map (·.1)).length:=by simpa using hl
 have hat:((L.map (·.1))[at9]'hlm)=r:=by
  have e:=(List.getElem?_eq_some_iff.1 hr).2
  simp [e]
 have e:=h.rn
 rw [show 2000 - at9=(1999 - at9)+1 by omega,srch_go hlm,hat] at e
 rw [← e]
 exact srch_pre _ _ _ _

theorem spaceOf_bad (a:Option Addr) (len cap:Nat) (rows:List (List I3)) (s:S4) (m:V4) (w:World) (hC:Codes w a len cap rows) (h:Vmem w s m) (hV:VmShape w) (hok:(progOk rows && shapeOk m)=false) :
  Calls Tryz.prog 67 #[.agg #[.slice a len cap],s.val] w fun e w'=>e=.returned (.tuple #[.agg #[.slice none 0 0,.map none],.int .i64 1])∧Below w.heap.size w w':=by
 have kM:=fun W hC h hV=>machineOf_bad a len cap rows s m W hC h hV hok
 have hM:=fun (W:World) (hb:Below w.heap.size w W)=>h.below hb
 obtain ⟨⟨a0,n0,c0⟩,⟨a1,n1,c1⟩,⟨a2,n2,c2⟩,⟨a3,n3,c3⟩⟩:=s
 have uA:S4.val ((a0,n0,c0),(a1,n1,c1),(a2,n2,c2),(a3,n3,c3))=.agg #[.slice a0 n0 c0,.slice a1 n1 c1,.slice a2 n2 c2,.slice a3 n3 c3]:=rfl
 rw [uA] at kM ⊢
 clear uA h
 have bw:Below w.heap.size w (((w.alloc (.cells #[.slice a len cap] 25)).alloc (.cells #[.slice a0 n0 c0,.slice a1 n1 c1,.slice a2 n2 c2,.slice a3 n3 c3] 33)).alloc (.cells #[.slice none 0 0,.map none] 106)):=by go_grown
 have pP:Blk (((w.alloc (.cells #[.slice a len cap] 25)).alloc (.cells #[.slice a0 n0 c0,.slice a1 n1 c1,.slice a2 n2 c2,.slice a3 n3 c3] 33)).alloc (.cells #[.slice none 0 0,.map none] 106)) w.heap.size 25 [.slice a len cap]:=blkOld _ (blkOld _ (blkAt _ _ _ rfl))
 have pS:Blk (((w.alloc (.cells #[.slice a len cap] 25)).alloc (.cells #[.slice a0 n0 c0,.slice a1 n1 c1,.slice a2 n2 c2,.slice a3 n3 c3] 33)).alloc (.cells #[.slice none 0 0,.map none] 106)) (w.heap.size+1) 33 [.slice a0 n0 c0,.slice a1 n1 c1,.slice a2 n2 c2,.slice a3 n3 c3]:=blkOld _ (blkAt _ _ _ (by simp))
 have pR:Blk (((w.alloc (.cells #[.slice a len cap] 25)).alloc (.cells #[.slice a0 n0 c0,.slice a1 n1 c1,.slice a2 n2 c2,.slice a3 n3 c3] 33)).alloc (.cells #[.slice none 0 0,.map none] 106)) (w.heap.size+2) 106 [.slice none 0 0,.map none]:=blkAt _ _ _ (by simp)
 go_enter Tryz.func67,Tryz.ntmps67
 go_wp2_with fail
 generalize (((w.alloc (.cells #[.slice a len cap] 25)).alloc (.cells #[.slice a0 n0 c0,.slice a1 n1 c1,.slice a2 n2 c2,.slice a3 n3 c3] 33)).alloc (.cells #[.slice none 0 0,.map none] 106))=U at *
 have kMx:=kM U (hC.below bw) (hM _ bw) (hV.below bw)
 clear kM hM hC hV
 go_wp2_with (first | refine wpList_load_blk rfl 25 _ rfl w.heap.size rfl pP _ Tryz.underlying25 rfl (by kernel_rfl) ?_ | refine wpList_load_blk rfl 33 _ rfl (w.heap.size+1) rfl pS _ Tryz.underlying33 rfl (by kernel_rfl) ?_)
 refine kMx.mono ?_
 rintro e w1 ⟨rfl,hb⟩
 replace bw:=bel_trans bw hb
 replace pR:=pR.below hb
 clear hb kMx pP pS
 have pN:=Blk.new w1 89 [.slice none 0 0,.int .i64 0,.int .i64 0,.int .i64 0,.slice none 0 0,.int .i64 0,.int .i64 0,.int .i64 0,.slice none 0 0,.int .i64 0,.int .i64 0,.int .i64 0,.int .i64 0,.int .i64 0,.int .i64 0,.int .i64 0,.int .i64 0,.int .i64 0]
 have hbN:Below w1.heap.size w1 (w1.alloc (.cells #[.slice none 0 0,.int .i64 0,.int .i64 0,.int .i64 0,.slice none 0 0,.int .i64 0,.int .i64 0,.int .i64 0,.slice none 0 0,.int .i64 0,.int .i64 0,.int .i64 0,.int .i64 0,.int .i64 0,.int .i64 0,.int .i64 0,.int .i64 0,.int .i64 0] 89)):=by go_grown
 go_wp2_with (refine wpList_store_blk rfl 89 _ _ rfl w1.heap.size [.slice none 0 0,.int .i64 0,.int .i64 0,.int .i64 0,.slice none 0 0,.int .i64 0,.int .i64 0,.int .i64 0,.slice none 0 0,.int .i64 0,.int .i64 0,.int .i64 0,.int .i64 0,.int .i64 0,.int .i64 0,.int .i64 0,.int .i64 0,.int .i64 0] rfl rfl pN (by kernel_rfl) rfl rfl ?_)
 intro w2 p2 g2
 have b2:Below w1.heap.size w1 w2:=hbN.grown g2 hbN.size (fun k e=>by cases e;exact Nat.le_refl _)
 replace bw:=bel_trans bw b2
 replace pR:=pR.below b2
 clear p2 g2 hbN pN b2
 go_wp2_with (refine wpList_store_blk rfl 106 _ _ rfl (w.heap.size+2) [.slice none 0 0,.map none] rfl rfl pR (by kernel_rfl) rfl rfl ?_)
 intro w3 p3 g3
 replace bw:=bw.grown g3 bw.size (fun k e=>by cases e;omega)
 clear g3 pR
 go_wp2_with fail
 refine bodyPost_ret (results_blk2 Tryz.results67 _ _ _ _ _ _ rfl p3.out Tryz.underlying106 rfl (by kernel_rfl)) rfl ?_
 exact ⟨rfl,bw⟩

theorem spaceOf_isM (a:Option Addr) (len cap:Nat) (rows:List (List I3)) (s:S4) (z0:V4) (w:World) (hC:Codes w a len cap rows) (h:Vmem w s z0) (hV:VmShape w) (hp:progOk rows=true) (hz:shapeOk z0=true) :
  Calls Tryz.prog 67 #[.agg #[.slice a len cap],s.val] w fun e w'=>if (fullM rows z0).length≤2000 then SpcGot e w w' a rows (fullM rows z0) else (e=.returned (.tuple #[.agg #[.slice none 0 0,.map none],.int .i64 15])∧Below w.heap.size w w'):=by
 have kM:=fun W hC h hV=>machineOf_ok a len cap rows s z0 W hC h hV hp hz
 have hM:=fun (W:World) (hb:Below w.heap.size w W)=>h.below hb
 obtain ⟨cs,hR⟩:=rows_of_codes6 hC hp
 have hI:∀ k,k<3→Instrs w (slK cs k).1 (slK cs k).2.1 (slK cs k).2.2 (codeM rows k):=by
  obtain ⟨b,off,_,_,hk⟩:=hR
  exact fun k h3=>(hk k h3).2
 obtain ⟨⟨a0,n0,c0⟩,⟨a1,n1,c1⟩,⟨a2,n2,c2⟩,⟨a3,n3,c3⟩⟩:=s
 have uA:S4.val ((a0,n0,c0),(a1,n1,c1),(a2,n2,c2),(a3,n3,c3))=.agg #[.slice a0 n0 c0,.slice a1 n1 c1,.slice a2 n2 c2,.slice a3 n3 c3]:=rfl
 rw [uA] at kM ⊢
 clear uA h
 have bw:Below w.heap.size w (((w.alloc (.cells #[.slice a len cap] 25)).alloc (.cells #[.slice a0 n0 c0,.slice a1 n1 c1,.slice a2 n2 c2,.slice a3 n3 c3] 33)).alloc (.cells #[.slice none 0 0,.map none] 106)):=by go_grown
 have pP:Blk (((w.alloc (.cells #[.slice a len cap] 25)).alloc (.cells #[.slice a0 n0 c0,.slice a1 n1 c1,.slice a2 n2 c2,.slice a3 n3 c3] 33)).alloc (.cells #[.slice none 0 0,.map none] 106)) w.heap.size 25 [.slice a len cap]:=blkOld _ (blkOld _ (blkAt _ _ _ rfl))
 have pS:Blk (((w.alloc (.cells #[.slice a len cap] 25)).alloc (.cells #[.slice a0 n0 c0,.slice a1 n1 c1,.slice a2 n2 c2,.slice a3 n3 c3] 33)).alloc (.cells #[.slice none 0 0,.map none] 106)) (w.heap.size+1) 33 [.slice a0 n0 c0,.slice a1 n1 c1,.slice a2 n2 c2,.slice a3 n3 c3]:=blkOld _ (blkAt _ _ _ (by simp))
 have pR:Blk (((w.alloc (.cells #[.slice a len cap] 25)).alloc (.cells #[.slice a0 n0 c0,.slice a1 n1 c1,.slice a2 n2 c2,.slice a3 n3 c3] 33)).alloc (.cells #[.slice none 0 0,.map none] 106)) (w.heap.size+2) 106 [.slice none 0 0,.map none]:=blkAt _ _ _ (by simp)
 have hmm:=@run_makeMap Tryz.prog
 go_enter Tryz.func67,Tryz.ntmps67
 go_wp2_with fail
 generalize (((w.alloc (.cells #[.slice a len cap] 25)).alloc (.cells #[.slice a0 n0 c0,.slice a1 n1 c1,.slice a2 n2 c2,.slice a3 n3 c3] 33)).alloc (.cells #[.slice none 0 0,.map none] 106))=U at *
 have kMx:=kM U (hC.below bw) (hM _ bw) (hV.below bw)
 have hRU:=hR.below bw
 clear kM hM hC
 go_wp2_with (first | refine wpList_load_blk rfl 25 _ rfl w.heap.size rfl pP _ Tryz.underlying25 rfl (by kernel_rfl) ?_ | refine wpList_load_blk rfl 33 _ rfl (w.heap.size+1) rfl pS _ Tryz.underlying33 rfl (by kernel_rfl) ?_)
 refine kMx.mono ?_
 rintro e w1 ⟨⟨cs',rfl,hR'⟩,hb⟩
 obtain rfl:=hRU.uniq hR'
 replace bw:=bel_trans bw hb
 replace pR:=pR.below hb
 clear hb kMx pP pS hR' hRU
 have pN:=Blk.new w1 89 [.slice none 0 0,.int .i64 0,.int .i64 0,.int .i64 0,.slice none 0 0,.int .i64 0,.int .i64 0,.int .i64 0,.slice none 0 0,.int .i64 0,.int .i64 0,.int .i64 0,.int .i64 0,.int .i64 0,.int .i64 0,.int .i64 0,.int .i64 0,.int .i64 0]
 have hbN:Below w1.heap.size w1 (w1.alloc (.cells #[.slice none 0 0,.int .i64 0,.int .i64 0,.int .i64 0,.slice none 0 0,.int .i64 0,.int .i64 0,.int .i64 0,.slice none 0 0,.int .i64 0,.int .i64 0,.int .i64 0,.int .i64 0,.int .i64 0,.int .i64 0,.int .i64 0,.int .i64 0,.int .i64 0] 89)):=by go_grown
 go_wp2_with (refine wpList_store_blk rfl 89 _ _ rfl w1.heap.size (machCells cs.1.val cs.2.1.val cs.2.2.val z0) rfl rfl pN (by kernel_rfl) rfl rfl ?_)
 intro w2 p2 g2
 have pM:=p2.out
 have b2:Below w1.heap.size w1 w2:=hbN.grown g2 hbN.size (fun k e=>by cases e;exact Nat.le_refl _)
 replace bw:=bel_trans bw b2
 replace pR:=pR.below b2
 clear p2 g2 hbN pN b2
 generalize w1.heap.size=Y at *
 have hN0:NumD (.map []) ([]:List (Rec6 V4)):=NumD.start
 have hbs:=bw.size
 have hRlt:=pR.lt
 have pX:=Blk.new (w2.alloc (.map #[] 0)) 106 [.slice none 0 0,.map none]
 have hm0:((w2.alloc (.map #[] 0)).alloc (.cells #[.slice none 0 0,.map none] 106)).ownsMap Tryz.prog 9 (plainElem Tryz.prog 3) w2.heap.size 0 (.map []:DataW Unit):=(World.ownsMap_made (H:=Unit) w2 Tryz.prog 9 (plainElem Tryz.prog 3)).alloc _
 have hbM:Below w2.heap.size w2 (w2.alloc (.map #[] 0)):=⟨rfl,rfl,rfl,by simp,fun k hk=>Below.heap_alloc w2 _ k hk⟩
 have hbX:Below w2.heap.size w2 ((w2.alloc (.map #[] 0)).alloc (.cells #[.slice none 0 0,.map none] 106)):=bel_trans hbM ⟨rfl,rfl,rfl,by simp,fun k hk=>Below.heap_alloc _ _ k hk⟩
 simp only [World.size_alloc] at pX
 go_wp2_with (refine wpList_store_blk rfl 106 _ _ rfl (w2.heap.size+1) [.slice none 0 0,.map (some w2.heap.size)] rfl rfl pX (by kernel_rfl) rfl rfl ?_)
 intro w3 p3 g3
 have bx:=p3.out
 have hm3:=hm0.kept g3 (by simp)
 have b3:Below w2.heap.size w2 w3:=hbX.grown g3 hbX.size (fun k e=>by cases e;omega)
 replace bw:=bel_trans bw b3
 replace pR:=pR.below b3
 replace pM:=pM.below b3
 clear p3 g3 hbX hbM hm0 pX b3 hmm
 have sp0:SpcD w3 w.heap.size w2.heap.size (.slice none 0 0) cs (mvsOf rows (fullM rows z0)) [] 0:=⟨World.ownsRow_nil _ _ _ _,⟨_,hm3,hN0⟩,fun i r mv hi=>by omega,fun i r mv _ hr=>by simp at hr,hbs⟩
 have kT:=meet_is sp0 bx bw.size (Nat.le_refl 0) (fun r hr=>by simp at hr) (hV.below bw) hz (by decide) 0 0
 have hXB:w.heap.size≤w2.heap.size+1:=by omega
 have hRX:w.heap.size+2≠w2.heap.size+1:=by omega
 go_wp2_with (refine wpList_load_blk rfl 89 _ rfl Y rfl pM _ Tryz.underlying89 rfl (by kernel_rfl) ?_)
 refine kT.mono ?_
 rintro e w4 ⟨vs,rfl,sp,bx4,k4,m4⟩
 have st:OnSp w w4 (w2.heap.size+1) (w.heap.size+2) w2.heap.size vs cs rows z0 (putL 0 [] 0 z0) 0:=by
  refine ⟨sp,bx4,?_,?_,?_,?_,Nat.zero_le _,by decide,sp0.belowK k4 hXB bw⟩
  ·exact (k4.block _ pR.lt hRX (map_blk hm3 pR) (own_ne_blk9 sp0.row pR (by decide))).trans pR
  ·rw [putL_map];exact putS_shaped (fun r hr=>by simp at hr) hz
  ·rw [putL_map];rfl
  ·exact putL_len 0 [] 0 z0
 generalize w2.heap.size+1=X at *
 generalize w2.heap.size=nb at *
 have hRB9:w.heap.size≤w.heap.size+2:=by omega
 generalize w.heap.size+2=R at *
 generalize putL 0 [] 0 z0=L0 at *
 clear kT sp bx4 k4 m4 sp0 bx bw pR pM hm3 hN0 hRlt hbs
 go_wp2_with fail
 go_loopw [24] (fun s24 wr=>∃ (at9:Nat) (vs:Value) (L:List (Rec6 V4 × Value)),s24=.int .i64 at9∧OnSp w wr X R nb vs cs rows z0 L at9) (fun s24 _=>2000 - (intOf s24).toNat)
 case atStart=>exact ⟨0,_,_,rfl,st⟩
 case round =>
  clear st vs
  obtain ⟨at9,vs,L,rfl,hO⟩:=hrel
  obtain ⟨va,vn,vc,rfl⟩:∃ va vn vc,vs=.slice va vn vc:=own_slice6 hO.sp.row
  obtain rfl:vn=L.length:=by
   rcases hO.sp.row.2 with ⟨h1,h2⟩ | ⟨gq,cq,cur,h1,_⟩
   ·cases h1;exact h2.symm
   ·cases h1;rfl
  have cX0:wr.cell? ⟨X,0,none⟩=some (.slice va L.length vc):=by simpa using hO.bx.cell 0
  by_cases hlt:at9<2000
  ·have hlt1:(at9:Int)<2000:=by omega
   by_cases hel:at9=L.length
   ·have hxl:at9=L.length∨at9=2000:=.inl hel
    have hF:=hO.fin hxl
    have hq1:((at9:Int) == (L.length:Int))=true:=by rw [hel];simp
    have hq2:decide ((at9:Int)=(L.length:Int))=true:=by rw [hel];simp
    clear hel
    have hfl:(fullM rows z0).length=L.length:=by rw [← hF];simp
    by_cases hbig:2000<L.length
    ·omega
    ·have hif:(fullM rows z0).length≤2000:=by omega
     have hb1:¬ (2000:Int)<(L.length:Int):=by omega
     have pR:=hO.br
     have bw:=hO.bl
     have bx:=hO.bx
     have hRB:w.heap.size≤R:=hRB9
     have sp:=hO.sp
     obtain rfl:at9=L.length:=by have:=hO.le;omega
     clear hO hfl hbig hxl
     go_wp2_with (first | refine wpList_load_blk rfl 106 _ rfl X rfl bx _ Tryz.underlying106 rfl (by kernel_rfl) ?_ | refine wpList_store_blk rfl 106 _ _ rfl R [.slice va L.length vc,.map (some nb)] rfl rfl pR (by kernel_rfl) rfl rfl ?_)
     intro w9 p9 g9
     replace bw:=bw.grown g9 bw.size (fun k e=>by cases e;exact hRB)
     replace sp:=sp.grown g9 pR (by decide) (by decide)
     have HG:Hid (SpcGot (.returned (.tuple #[.agg #[.slice va L.length vc,.map (some nb)],.int .i64 0])) w w9 a rows (fullM rows z0)):=⟨_,_,_,_,rfl,sp,hF,hR,bw⟩
     clear g9 pR sp bx bw hF
     go_wp2_with fail
     refine bodyPost_ret (results_blk2 Tryz.results67 _ _ _ _ _ _ rfl p9.out Tryz.underlying106 rfl (by kernel_rfl)) rfl ?_
     exact HG.out
   ·have hal:at9<L.length:=by have:=hO.le;omega
    have hq1:((at9:Int) == (L.length:Int))=false:=beq_false_of_ne (by omega)
    have hq2:decide ((at9:Int)=(L.length:Int))=false:=decide_eq_false (by omega)
    obtain ⟨r,mv,hr⟩:∃ r mv,L[at9]?=some (r,mv):=⟨L[at9].1,L[at9].2,by rw [List.getElem?_eq_getElem hal]⟩
    obtain rfl:=hO.sp.nil at9 r mv (Nat.le_refl _) hr
    have kG:=goOn_is hO.sp hO.bx hXB hO.bl hr hO.sh hp hV hI (hO.pre hr hlt) (by have:=hO.ln;omega)
    have HGo:=fun (w5:World) (vs5:Value) (L5:List (Rec6 V4 × Value))=>hO.go (w':=w5) (vs':=vs5) (L':=L5) hr hRX hXB hlt
    clear hel hal hr
    go_wp2_with fail
    refine kG.mono ?_
    rintro e w5 ⟨vs5,L5,rfl,sp5,bx5,st5,sh5,ln5,k5,m5⟩
    have st9:=HGo w5 vs5 L5 sp5 bx5 st5 sh5 ln5 k5
    clear kG HGo sp5 bx5 st5 sh5 ln5 k5 m5 hO cX0
    go_wp2
    go_roundw
    case rel=>exact ⟨at9+1,_,_,by go_num,st9⟩
    case measure=>simp [intOf];omega
  ·have hlt1:¬ (at9:Int)<2000:=by omega
   have hxl:at9=L.length∨at9=2000:=.inr (by have:=hO.a2;omega)
   have hF:=hO.fin hxl
   have hfl:(fullM rows z0).length=L.length:=by rw [← hF];simp
   by_cases hbig:2000<L.length
   ·have hif:¬ (fullM rows z0).length≤2000:=by omega
    have hb1:(2000:Int)<(L.length:Int):=by omega
    have pR:=hO.br
    have bw:=hO.bl
    have hRB:w.heap.size≤R:=hRB9
    clear hF hfl hO hbig
    go_wp2_with (refine wpList_store_blk rfl 106 _ _ rfl R [.slice none 0 0,.map none] rfl rfl pR (by kernel_rfl) rfl rfl ?_)
    intro w9 p9 g9
    replace bw:=bw.grown g9 bw.size (fun k e=>by cases e;exact hRB)
    clear g9 pR
    go_wp2_with fail
    refine bodyPost_ret (results_blk2 Tryz.results67 _ _ _ _ _ _ rfl p9.out Tryz.underlying106 rfl (by kernel_rfl)) rfl ?_
    exact ⟨rfl,bw⟩
   ·have hif:(fullM rows z0).length≤2000:=by omega
    have hb1:¬ (2000:Int)<(L.length:Int):=by omega
    have pR:=hO.br
    have bw:=hO.bl
    have bx:=hO.bx
    have hRB:w.heap.size≤R:=hRB9
    have sp:=hO.sp
    obtain rfl:at9=L.length:=by have:=hO.le;omega
    clear hO hfl hbig hxl
    go_wp2_with (first | refine wpList_load_blk rfl 106 _ rfl X rfl bx _ Tryz.underlying106 rfl (by kernel_rfl) ?_ | refine wpList_store_blk rfl 106 _ _ rfl R [.slice va L.length vc,.map (some nb)] rfl rfl pR (by kernel_rfl) rfl rfl ?_)
    intro w9 p9 g9
    replace bw:=bw.grown g9 bw.size (fun k e=>by cases e;exact hRB)
    replace sp:=sp.grown g9 pR (by decide) (by decide)
    have HG:Hid (SpcGot (.returned (.tuple #[.agg #[.slice va L.length vc,.map (some nb)],.int .i64 0])) w w9 a rows (fullM rows z0)):=⟨_,_,_,_,rfl,sp,hF,hR,bw⟩
    clear g9 pR sp bx bw hF
    go_wp2_with fail
    refine bodyPost_ret (results_blk2 Tryz.results67 _ _ _ _ _ _ rfl p9.out Tryz.underlying106 rfl (by kernel_rfl)) rfl ?_
    exact HG.out
theorem spaceOf_is (a:Option Addr) (len cap:Nat) (rows:List (List I3)) (s:S4) (w:World) (hC:Codes w a len cap rows) (h:Vmem w s zeroV) (hV:VmShape w) (hp:progOk rows=true) :
  Calls Tryz.prog 67 #[.agg #[.slice a len cap],s.val] w fun e w'=>if (fullS rows).length≤2000 then SpcGot e w w' a rows (fullS rows) else (e=.returned (.tuple #[.agg #[.slice none 0 0,.map none],.int .i64 15])∧Below w.heap.size w w'):=
 spaceOf_isM a len cap rows s zeroV w hC h hV hp zero_shape
end Go.Proofs.YtifoggpohlegmaaGreatDoor
