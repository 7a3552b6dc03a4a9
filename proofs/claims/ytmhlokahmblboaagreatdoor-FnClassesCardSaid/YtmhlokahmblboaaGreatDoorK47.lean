/-
  Joined: ClsS, VmLaid.
-/
import Derived.Test.YtmhlokahmblboaaGreatDoorRows
import Derived.ProofKit
import Derived.OpenShut
import Derived.LaidMore
import Derived.MakeChecks
import Derived.Stop.LaidErr
import Derived.Test.YtmhlokahmblboaaGreatDoorK45
import Derived.Test.YtmhlokahmblboaaGreatDoorK46

namespace Go.Proofs.YtmhlokahmblboaaGreatDoor
set_option maxRecDepth 100000
set_option maxHeartbeats 16000000
open Go.RowKit
set_option linter.unusedVariables false
set_option linter.unusedSimpArgs false

def ClC (rows:List (List I3)) (cap f:Nat):Prop:=∀ (m:V4) (ls:List Int) (out:List (List Int)),Zk m=true→YC rows m<f→VU rows ls m→ls.length+f≤60→out.length≤300→∀ (w:World) (a9:Option Addr) (cs:Sl × Sl × Sl) (s:S4) (lb lo lc ob oo oc:Nat),Z6 w a9 cs rows→Yk w s m→YS .i64 w (some ⟨lb,lo,none⟩) ls.length lc ls→Wl w (some ⟨ob,oo,none⟩) out.length oc out →
  Calls Tryz.prog 33 #[.agg #[.slice a9 3 cap],s.val,.slice (some ⟨lb,lo,none⟩) ls.length lc,.slice (some ⟨ob,oo,none⟩) out.length oc] w fun e w'=>Jw e w' (WS rows f m ls (out,true))∧Below w.heap.size w w'
theorem Kl {rows:List (List I3)} {ls:List Int} {m:V4} {k:Int} (h:VU rows ls m) (hz:Zv rows m k=0):VU rows (ls++[k]) (goM rows m k).1:=by
 obtain ⟨h1,h2⟩:=h
 unfold VU
 rw [Sj rows k ls Zl [] h1,h2,N7,if_pos hz]
 exact ⟨rfl,rfl⟩
def F5 (V W:World) (z:V4) (s16:Value):Prop:=∃ (t:S4) (Y:Nat),s16=.pointer (some ⟨Y,0,none⟩)∧Blk W Y 74 [.slice t.1.1 t.1.2.1 t.1.2.2,.slice t.2.1.1 t.2.1.2.1 t.2.1.2.2,.slice t.2.2.1.1 t.2.2.1.2.1 t.2.2.1.2.2,.slice t.2.2.2.1 t.2.2.2.2.1 t.2.2.2.2.2]∧Yk W t z∧Below V.heap.size V W
structure JC (rows:List (List I3)) (f:Nat) (m:V4) (ls:List Int) (R:List (List Int) × Bool) (w5 wr:World) (s3:Value) (i:Nat) (out:List (List Int)):Prop where
 eq:Qq rows f m ls ((Zj rows m 3).drop i) (out,true)=R
 ol:out.length≤300
 sn:∃ ob oo oc,s3=.slice (some ⟨ob,oo,none⟩) out.length oc∧Wl wr (some ⟨ob,oo,none⟩) out.length oc out
 bl:Below w5.heap.size w5 wr
theorem JY {rows:List (List I3)} {f:Nat} {m:V4} {ls:List Int} {out:List (List Int)} {r:List (List Int) × Bool} (h:WS rows f m ls (out,true)=r) (ho:out.length≤300):r.1.length≤301∧(r.2=true→r.1.length≤300):=by
 subst h
 exact JZ ho

theorem Pr {rows:List (List I3)} {cap:Nat} (hp:Zn rows=true) {f:Nat} (ih:ClC rows cap f):ClC rows cap (f+1):=by
 intro m ls out hs hf hgo hlf hol w a9 cs s lb lo lc ob oo oc hR h hL hO
 by_cases hEm:Zj rows m 3=[]
 ·rw [GV hEm]
  exact Pq hp hs hgo.1 (by omega) hol hEm w a9 cs s (some ⟨lb,lo,none⟩) lc ob oo oc hR h hL hO
 obtain ⟨i0,hi,hz0,hz1,hz2⟩:=info_parts Xc
 obtain ⟨⟨t0a,t0n,t0c⟩,⟨t1a,t1n,t1c⟩,⟨t2a,t2n,t2c⟩,⟨t3a,t3n,t3c⟩⟩:=s
 have ut:S4.val ((t0a,t0n,t0c),(t1a,t1n,t1c),(t2a,t2n,t2c),(t3a,t3n,t3c))=.agg #[.slice t0a t0n t0c,.slice t1a t1n t1c,.slice t2a t2n t2c,.slice t3a t3n t3c]:=rfl
 have kE:=fun (W:World) (b:Below w.heap.size w W)=>Xw a9 3 cap rows ((t0a,t0n,t0c),(t1a,t1n,t1c),(t2a,t2n,t2c),(t3a,t3n,t3c)) m cs W rfl (hR.below b) (h.below b) hp hs
 rw [ut] at kE ⊢
 obtain ⟨R,hR0⟩:∃ R,R=WS rows (f+1) m ls (out,true):=⟨_,rfl⟩
 rw [← hR0]
 rw [FG hEm] at hR0
 have HR:Hid (R=Qq rows f m ls (Zj rows m 3) (out,true)):=hR0
 clear hR0
 have bw:Below w.heap.size w ((w.alloc (.cells #[.slice a9 3 cap] 25)).alloc (.cells #[.slice t0a t0n t0c,.slice t1a t1n t1c,.slice t2a t2n t2c,.slice t3a t3n t3c] 74)):=by go_grown
 have pP:Blk ((w.alloc (.cells #[.slice a9 3 cap] 25)).alloc (.cells #[.slice t0a t0n t0c,.slice t1a t1n t1c,.slice t2a t2n t2c,.slice t3a t3n t3c] 74)) w.heap.size 25 [.slice a9 3 cap]:=Zq _ (Zo _ _ _ rfl)
 have pS:Blk ((w.alloc (.cells #[.slice a9 3 cap] 25)).alloc (.cells #[.slice t0a t0n t0c,.slice t1a t1n t1c,.slice t2a t2n t2c,.slice t3a t3n t3c] 74)) (w.heap.size+1) 74 [.slice t0a t0n t0c,.slice t1a t1n t1c,.slice t2a t2n t2c,.slice t3a t3n t3c]:=Zo _ _ _ (by simp)
 go_enter Tryz.func33,Tryz.ntmps33
 go_wp2_with fail
 generalize ((w.alloc (.cells #[.slice a9 3 cap] 25)).alloc (.cells #[.slice t0a t0n t0c,.slice t1a t1n t1c,.slice t2a t2n t2c,.slice t3a t3n t3c] 74))=w0 at *
 have kEx:=kE w0 bw
 clear kE
 go_wp2_with (first | refine Zc rfl 25 _ rfl w.heap.size rfl pP _ Tryz.underlying25 rfl (by kernel_rfl) ?_ | refine Zc rfl 74 _ rfl (w.heap.size+1) rfl pS _ Tryz.underlying74 rfl (by kernel_rfl) ?_)
 refine kEx.mono ?_
 rintro e w7 ⟨⟨⟨ea,en,ec⟩,rfl,hE⟩,hb⟩
 have hLn:(Zj rows m 3).length=en:=by have:=hE.1;simpa using this
 have hn3:en≤3:=by rw [← hLn];exact YD rows m 3
 have hen0:0<en:=by rw [← hLn];exact List.length_pos_iff.2 hEm
 have hen1:((en:Int) == 0)=false:=by simp;omega
 have hEI:=hE.ints
 replace bw:=Zb bw hb
 replace pP:=pP.below hb
 replace pS:=pS.below hb
 replace hL:=hL.below bw
 have st0:JC rows f m ls R w7 w7 (.slice (some ⟨ob,oo,none⟩) out.length oc) 0 out:=⟨by rw [HR.out];rfl,hol,⟨_,_,_,rfl,hO.below bw⟩,Below.refl _ _⟩
 clear hb kEx hE hO HR hol hEm
 have HLN:Hid ((Zj rows m 3).length=en):=hLn
 clear hLn
 go_wp2_with fail
 go_loopw [3,15] (fun s3 s15 wr=>∃ (i:Nat) (out:List (List Int)),s15=.int .i64 i∧i≤en∧JC rows f m ls R w7 wr s3 i out) (fun _ s15 _=>en - (Go.RowKit.intOf s15).toNat)
 case atStart=>exact ⟨0,_,rfl,Nat.zero_le _,st0⟩
 case round =>
  clear st0 out
  obtain ⟨i,out,rfl,hin,hOn⟩:=hrel
  obtain ⟨heq,hol,⟨xb,xo,xc,rfl,hO⟩,bl⟩:=hOn
  by_cases hlt:i<en
  ·have hlt3:(i:Int)<(en:Int):=by omega
   have hkj:(Zj rows m 3)[i]?=some ((Zj rows m 3).getD i 0):=by rw [List.getD,List.getElem?_eq_getElem (by rw [HLN.out];omega)];rfl
   have hz:=Ya (List.mem_of_getElem? hkj)
   obtain ⟨h0k,h2k,hd,_⟩:=ZX hz
   obtain ⟨k,hk⟩:∃ k:Nat,(Zj rows m 3).getD i 0=(k:Int):=⟨_,(Int.toNat_of_nonneg h0k).symm⟩
   obtain ⟨eb,eo,rfl,hc,hlb⟩:=Y8 (hEI.below bl) (show i<en from hlt)
   rw [hk] at hkj hz hd h0k h2k hc
   rw [Int.toNat_natCast] at hd
   have hk3:k<3:=by omega
   clear hk hlb
   have hx:=ZV hp hs hz
   have hlx:=YX hp hs hz
   have hg2:=Kl hgo hz
   have hdr:(Zj rows m 3).drop i=(k:Int)::(Zj rows m 3).drop (i+1):=by
    obtain ⟨h1,h2⟩:=List.getElem?_eq_some_iff.1 hkj
    rw [List.drop_eq_getElem_cons h1,h2]
   rw [hdr,Kk] at heq
   have kI:=ih (goM rows m (k:Int)).1 (ls++[(k:Int)]) out hx (by omega) hg2 (by simp;omega) hol
   have kP:=fun (W:World) (b:Below w.heap.size w W)=>WJ (cap:=cap) rfl (hR.below b) (h.below b) hp hs hk3 hd
   rw [← Wq] at kP
   have ut:S4.val ((t0a,t0n,t0c),(t1a,t1n,t1c),(t2a,t2n,t2c),(t3a,t3n,t3c))=.agg #[.slice t0a t0n t0c,.slice t1a t1n t1c,.slice t2a t2n t2c,.slice t3a t3n t3c]:=rfl
   rw [ut] at kP
   obtain ⟨r,hr⟩:∃ r,WS rows f (goM rows m (k:Int)).1 (ls++[(k:Int)]) (out,true)=r:=⟨_,rfl⟩
   have hrm:=JY hr hol
   rw [hr] at heq kI
   have HEQ:Hid (Qq rows f m ls ((Zj rows m 3).drop (i+1)) r=R):=heq
   clear heq hdr hkj hz hd hlx hg2 hr
   generalize goM rows m (k:Int)=zf at *
   obtain ⟨z,fl⟩:=zf
   simp only at kP hx kI
   have pPr:=pP.below bl
   have pSr:=pS.below bl
   have bwr:=Zb bw bl
   have hi0:(0:Int)≤(i:Int):=by omega
   go_wp2_with fail
   go_cut [16,17] from 56 to 91 (fun s16 s17 W=>F5 wr W z s16)
   ·have hb9:Below wr.heap.size wr wr.drew:=by go_grown
    refine wp_region_held_drew (S:=(fun w'=>w'.cell? ⟨w.heap.size,0,none⟩=some (.slice a9 3 cap)∧w'.cell? ⟨w.heap.size+1,0,none⟩=some (.slice t0a t0n t0c)∧w'.cell? ⟨w.heap.size+1,1,none⟩=some (.slice t1a t1n t1c)∧w'.cell? ⟨w.heap.size+1,2,none⟩=some (.slice t2a t2n t2c)∧w'.cell? ⟨w.heap.size+1,3,none⟩=some (.slice t3a t3n t3c)∧w'.cell? ⟨eb,eo+i,none⟩=some (.int .i64 (k:Int)))) (by kernel_rfl) ⟨by simpa using pPr.cell 0,by simpa using pSr.cell 0,by simpa using pSr.cell 1,by simpa using pSr.cell 2,by simpa using pSr.cell 3,hc⟩ (fun hS0=>?_)
    refine tkm 0 63 (.agg #[.slice a9 3 cap]) ?_
    refine tkm 1 64 (.agg #[.slice t0a t0n t0c,.slice t1a t1n t1c,.slice t2a t2n t2c,.slice t3a t3n t3c]) ?_
    refine tkm 2 65 (.slice (some ⟨eb,eo,none⟩) en ec) ?_
    refine tkm 3 66 (.int .i64 (i:Int)) ?_
    refine tkm 4 67 (.pointer (some ⟨eb,eo+i,none⟩)) ?_
    refine tkm 5 68 (.int .i64 (k:Int)) ?_
    replace bwr:=Zb bwr hb9
    generalize wr.drew=V at *
    refine wpAnyH_ready (rs:=[6,10]) (by kernel_rfl) (by simp) ?_
    refine AllReadyH.cons (o:=⟨some 69,_,_,_,_,_⟩) rfl (fun K hK=>?_) (AllReadyH.cons (o:=⟨some 16,_,_,_,_,_⟩) rfl (fun K hK=>?_) AllReadyH.nil)
    ·have kPx:=kP V bwr
     go_simp
     refine kPx.mono ?_
     rintro e V1 ⟨⟨⟨⟨z0a,z0n,z0c⟩,⟨z1a,z1n,z1c⟩,⟨z2a,z2n,z2c⟩,⟨z3a,z3n,z3c⟩⟩,rfl,hO2⟩,hb1⟩
     have uz:S4.val ((z0a,z0n,z0c),(z1a,z1n,z1c),(z2a,z2n,z2c),(z3a,z3n,z3c))=.agg #[.slice z0a z0n z0c,.slice z1a z1n z1c,.slice z2a z2n z2c,.slice z3a z3n z3c]:=rfl
     rw [uz]
     clear uz
     go_wp2_with fail
     refine hK.out _ _ ⟨Za hb1 _ _ hS0.1,Za hb1 _ _ hS0.2.1,Za hb1 _ _ hS0.2.2.1,Za hb1 _ _ hS0.2.2.2.1,Za hb1 _ _ hS0.2.2.2.2.1,Za hb1 _ _ hS0.2.2.2.2.2⟩ (fun hS5=>?_)
     clear hK kPx
     try simp only [Act.put,tka,tkb,tkc]
     refine tkm 7 62 (.tuple #[.agg #[.slice z0a z0n z0c,.slice z1a z1n z1c,.slice z2a z2n z2c,.slice z3a z3n z3c],.int .i64 fl]) ?_
     refine tkm 8 70 (.agg #[.slice z0a z0n z0c,.slice z1a z1n z1c,.slice z2a z2n z2c,.slice z3a z3n z3c]) ?_
     refine tkm 9 71 (.int .i64 fl) ?_
     refine tkr 10 16 (fun K hK=>?_)
     have hb2:Below V1.heap.size V1 (V1.alloc (.cells #[.slice none 0 0,.slice none 0 0,.slice none 0 0,.slice none 0 0] 74)):=by go_grown
     have pX:Blk (V1.alloc (.cells #[.slice none 0 0,.slice none 0 0,.slice none 0 0,.slice none 0 0] 74)) V1.heap.size 74 [.slice none 0 0,.slice none 0 0,.slice none 0 0,.slice none 0 0]:=Zo _ _ _ rfl
     replace hO2:=hO2.below hb2
     have hbA:=Zb hb1 hb2
     have hYV:V.heap.size≤V1.heap.size:=hb1.size
     go_simp
     refine hK.out _ _ ⟨Za hbA _ _ hS0.1,Za hbA _ _ hS0.2.1,Za hbA _ _ hS0.2.2.1,Za hbA _ _ hS0.2.2.2.1,Za hbA _ _ hS0.2.2.2.2.1,Za hbA _ _ hS0.2.2.2.2.2⟩ (fun hS6=>?_)
     clear hK hb1 hb2
     generalize (V1.alloc (.cells #[.slice none 0 0,.slice none 0 0,.slice none 0 0,.slice none 0 0] 74))=V2 at *
     generalize V1.heap.size=Y at *
     try simp only [Act.put,tka,tkb,tkc]
     refine tkz 11 (fun K hK=>?_)
     refine Zt rfl 74 _ _ rfl Y [.slice z0a z0n z0c,.slice z1a z1n z1c,.slice z2a z2n z2c,.slice z3a z3n z3c] rfl rfl pX (by kernel_rfl) rfl rfl ?_
     intro V8 pX8 g8
     replace hO2:=hO2.kept9 g8 pX (by decide)
     have hbig:=hbA.grown g8 hbA.size (fun q hq=>by cases hq;exact hYV)
     refine hK.out _ _ ⟨Za hbig _ _ hS0.1,Za hbig _ _ hS0.2.1,Za hbig _ _ hS0.2.2.1,Za hbig _ _ hS0.2.2.2.1,Za hbig _ _ hS0.2.2.2.2.1,Za hbig _ _ hS0.2.2.2.2.2⟩ (fun hS7=>?_)
     clear hK pX g8 hbA hYV
     have pX:=pX8.out
     clear pX8
     try simp only [Act.put,tka,tkb,tkc]
     refine tkm 12 17 (.int .i64 fl) ?_
     refine wpAnyH_done (by kernel_rfl) ?_ _
     go_wp2_with fail
     go_meet
     case rel=>exact ⟨((z0a,z0n,z0c),(z1a,z1n,z1c),(z2a,z2n,z2c),(z3a,z3n,z3c)),Y,rfl,pX,hO2.mem (ZO hx).1,Zb hb9 hbig⟩
    have hb1:Below V.heap.size V (V.alloc (.cells #[.slice none 0 0,.slice none 0 0,.slice none 0 0,.slice none 0 0] 74)):=by go_grown
    have pX:Blk (V.alloc (.cells #[.slice none 0 0,.slice none 0 0,.slice none 0 0,.slice none 0 0] 74)) V.heap.size 74 [.slice none 0 0,.slice none 0 0,.slice none 0 0,.slice none 0 0]:=Zo _ _ _ rfl
    have hYV:V.heap.size≤V.heap.size:=Nat.le_refl _
    go_simp
    refine hK.out _ _ ⟨Za hb1 _ _ hS0.1,Za hb1 _ _ hS0.2.1,Za hb1 _ _ hS0.2.2.1,Za hb1 _ _ hS0.2.2.2.1,Za hb1 _ _ hS0.2.2.2.2.1,Za hb1 _ _ hS0.2.2.2.2.2⟩ (fun hS6=>?_)
    clear hK
    have kPx:=kP _ (Zb bwr hb1)
    generalize (V.alloc (.cells #[.slice none 0 0,.slice none 0 0,.slice none 0 0,.slice none 0 0] 74))=V2 at *
    obtain ⟨Y,hY⟩:∃ Y,Y=V.heap.size:=⟨_,rfl⟩
    rw [← hY] at pX hYV ⊢
    replace hYV:V.heap.size≤Y:=by omega
    clear hY
    try simp only [Act.put,tka,tkb,tkc]
    refine tkr 6 69 (fun K hK=>?_)
    go_simp
    refine kPx.mono ?_
    rintro e V3 ⟨⟨⟨⟨z0a,z0n,z0c⟩,⟨z1a,z1n,z1c⟩,⟨z2a,z2n,z2c⟩,⟨z3a,z3n,z3c⟩⟩,rfl,hO2⟩,hb2⟩
    have uz:S4.val ((z0a,z0n,z0c),(z1a,z1n,z1c),(z2a,z2n,z2c),(z3a,z3n,z3c))=.agg #[.slice z0a z0n z0c,.slice z1a z1n z1c,.slice z2a z2n z2c,.slice z3a z3n z3c]:=rfl
    rw [uz]
    clear uz
    go_wp2_with fail
    have hbA:=Zb hb1 hb2
    replace pX:=pX.below hb2
    refine hK.out _ _ ⟨Za hbA _ _ hS0.1,Za hbA _ _ hS0.2.1,Za hbA _ _ hS0.2.2.1,Za hbA _ _ hS0.2.2.2.1,Za hbA _ _ hS0.2.2.2.2.1,Za hbA _ _ hS0.2.2.2.2.2⟩ (fun hS5=>?_)
    clear hK kPx hb1 hb2
    try simp only [Act.put,tka,tkb,tkc]
    refine tkm 7 62 (.tuple #[.agg #[.slice z0a z0n z0c,.slice z1a z1n z1c,.slice z2a z2n z2c,.slice z3a z3n z3c],.int .i64 fl]) ?_
    refine tkm 8 70 (.agg #[.slice z0a z0n z0c,.slice z1a z1n z1c,.slice z2a z2n z2c,.slice z3a z3n z3c]) ?_
    refine tkm 9 71 (.int .i64 fl) ?_
    refine tkz 11 (fun K hK=>?_)
    refine Zt rfl 74 _ _ rfl Y [.slice z0a z0n z0c,.slice z1a z1n z1c,.slice z2a z2n z2c,.slice z3a z3n z3c] rfl rfl pX (by kernel_rfl) rfl rfl ?_
    intro V8 pX8 g8
    replace hO2:=hO2.kept9 g8 pX (by decide)
    have hbig:=hbA.grown g8 hbA.size (fun q hq=>by cases hq;exact hYV)
    refine hK.out _ _ ⟨Za hbig _ _ hS0.1,Za hbig _ _ hS0.2.1,Za hbig _ _ hS0.2.2.1,Za hbig _ _ hS0.2.2.2.1,Za hbig _ _ hS0.2.2.2.2.1,Za hbig _ _ hS0.2.2.2.2.2⟩ (fun hS7=>?_)
    clear hK pX g8 hbA hYV
    have pX:=pX8.out
    clear pX8
    try simp only [Act.put,tka,tkb,tkc]
    refine tkm 12 17 (.int .i64 fl) ?_
    refine wpAnyH_done (by kernel_rfl) ?_ _
    go_wp2_with fail
    go_meet
    case rel=>exact ⟨((z0a,z0n,z0c),(z1a,z1n,z1c),(z2a,z2n,z2c),(z3a,z3n,z3c)),Y,rfl,pX,hO2.mem (ZO hx).1,Zb hb9 hbig⟩
   obtain ⟨⟨⟨z0a,z0n,z0c⟩,⟨z1a,z1n,z1c⟩,⟨z2a,z2n,z2c⟩,⟨z3a,z3n,z3c⟩⟩,Y,rfl,pX,hM,bx⟩:=hcut
   simp only at pX
   replace bl:=Zb bl bx
   replace bwr:=Zb bwr bx
   replace pPr:=pPr.below bx
   replace hO:=hO.below bx
   have hcx:=Za bx _ _ hc
   have hLx:=hL.below bl
   clear bx hc kP pSr
   have uz:S4.val ((z0a,z0n,z0c),(z1a,z1n,z1c),(z2a,z2n,z2c),(z3a,z3n,z3c))=.agg #[.slice z0a z0n z0c,.slice z1a z1n z1c,.slice z2a z2n z2c,.slice z3a z3n z3c]:=rfl
   generalize hwc:wc=U0 at *
   clear hwc
   go_wp2_with fail
   refine wp_region_held_drew (S:=(fun w'=>w'.cell? ⟨w.heap.size,0,none⟩=some (.slice a9 3 cap)∧w'.cell? ⟨Y,0,none⟩=some (.slice z0a z0n z0c)∧w'.cell? ⟨Y,1,none⟩=some (.slice z1a z1n z1c)∧w'.cell? ⟨Y,2,none⟩=some (.slice z2a z2n z2c)∧w'.cell? ⟨Y,3,none⟩=some (.slice z3a z3n z3c)∧w'.cell? ⟨eb,eo+i,none⟩=some (.int .i64 (k:Int))∧U0.heap.size≤w'.heap.size)) (by kernel_rfl) ⟨by simpa using pPr.cell 0,by simpa using pX.cell 0,by simpa using pX.cell 1,by simpa using pX.cell 2,by simpa using pX.cell 3,hcx,Nat.le_refl _⟩ (fun hS0=>?_)
   refine tkm 0 73 (.agg #[.slice a9 3 cap]) ?_
   refine tkm 1 74 (.agg #[.slice z0a z0n z0c,.slice z1a z1n z1c,.slice z2a z2n z2c,.slice z3a z3n z3c]) ?_
   refine tkm 3 76 (.slice (some ⟨lb,lo,none⟩) ls.length lc) ?_
   refine tkm 5 78 (.slice (some ⟨eb,eo,none⟩) en ec) ?_
   refine tkm 6 79 (.int .i64 (i:Int)) ?_
   refine tkm 7 80 (.pointer (some ⟨eb,eo+i,none⟩)) ?_
   refine tkm 8 81 (.int .i64 (k:Int)) ?_
   refine tkm 11 84 (.slice (some ⟨xb,xo,none⟩) out.length xc) ?_
   have bU:Below U0.heap.size U0 U0:=Below.refl _ _
   have hszU:U0.heap.size≤U0.heap.size:=Nat.le_refl _
   refine wpAnyH_ready (rs:=[2,9]) (by kernel_rfl) (by simp) ?_
   refine AllReadyH.cons (o:=⟨some 75,_,_,_,_,_⟩) rfl (fun K hK=>?_) (AllReadyH.cons (o:=⟨some 82,_,_,_,_,_⟩) rfl (fun K hK=>?_) AllReadyH.nil)
   ·have q:=(Mw U0 3 1 U0.heap.size hszU).drew
    obtain ⟨V1,hV⟩:∃ V,V=U0.heap.size:=⟨_,rfl⟩
    have hal:Below U0.heap.size U0 (U0.alloc (.cells #[] 3)).drew:=by go_grown
    replace bU:=Po bU hal
    replace hszU:U0.heap.size≤(U0.alloc (.cells #[] 3)).drew.heap.size:=Nat.le_trans hszU hal.size
    go_simp
    rw [← hV]
    refine hK.out _ _ ⟨Za bU _ _ hS0.1,Za bU _ _ hS0.2.1,Za bU _ _ hS0.2.2.1,Za bU _ _ hS0.2.2.2.1,Za bU _ _ hS0.2.2.2.2.1,Za bU _ _ hS0.2.2.2.2.2.1,Below.size bU⟩ (fun hS21=>?_)
    clear hK hal
    replace q:(U0.alloc (.cells #[] 3)).drew.ownsRow U0.heap.size 3 1 (.slice (some ⟨V1,0,none⟩) 0 0) 0 []:=by rw [hV];exact q
    clear hV
    generalize (U0.alloc (.cells #[] 3)).drew=U1 at *
    try simp only [Act.put,tka,tkb,tkc]
    refine wpAnyH_ready (rs:=[4,9]) (by kernel_rfl) (by simp) ?_
    refine AllReadyH.cons (o:=⟨some 77,_,_,_,_,_⟩) rfl (fun K hK=>?_) (AllReadyH.cons (o:=⟨some 82,_,_,_,_,_⟩) rfl (fun K hK=>?_) AllReadyH.nil)
    ·refine Xs rfl _ _ 72 rfl U0.heap.size 3 i0 (.int .i64 0) 1 8 Tryz.underlying72 hi hz0 hz1 hz2 rfl (by decide) (.slice (some ⟨V1,0,none⟩) 0 0) 0 [] rfl q ⟨lb,lo,none⟩ ls.length lc (ls.map (Value.int .i64)) rfl (by rw [List.length_map];omega) (Hm (hLx.below bU)) (K2 _) (by unfold maxLen;omega) (by omega) hszU ?_
     intro v2 U2 q2 gr hob
     replace bU:=bU.grown gr bU.size (fun g hg=>(q.lt g hg).1)
     replace hszU:U0.heap.size≤U2.heap.size:=Nat.le_trans hszU gr.size
     refine hK.out _ _ ⟨Za bU _ _ hS0.1,Za bU _ _ hS0.2.1,Za bU _ _ hS0.2.2.1,Za bU _ _ hS0.2.2.2.1,Za bU _ _ hS0.2.2.2.2.1,Za bU _ _ hS0.2.2.2.2.2.1,Below.size bU⟩ (fun hS22=>?_)
     clear hK q gr hob
     have q:=q2
     clear q2
     try simp only [Act.put,tka,tkb,tkc]
     refine tkr 9 82 (fun K hK=>?_)
     obtain ⟨G,hG⟩:∃ G,G=U2.heap.size:=⟨_,rfl⟩
     have e0:(U2.alloc (.cells #[.int .i64 (k:Int)] 3)).cell? ⟨G,0,none⟩=some (.int .i64 (k:Int)):=by subst hG;simp [go_sem]
     have hal:Below U2.heap.size U2 (U2.alloc (.cells #[.int .i64 (k:Int)] 3)):=by go_grown
     have hap:∀ g,Value.ownBlock v2=some g→g≠G:=fun g hg e=>by have:=(q.lt g hg).2;omega
     replace q:=Fw q hal
     replace bU:=Po bU hal
     replace hszU:U0.heap.size≤(U2.alloc (.cells #[.int .i64 (k:Int)] 3)).heap.size:=Nat.le_trans hszU hal.size
     go_simp
     rw [← hG]
     refine hK.out _ _ ⟨Za bU _ _ hS0.1,Za bU _ _ hS0.2.1,Za bU _ _ hS0.2.2.1,Za bU _ _ hS0.2.2.2.1,Za bU _ _ hS0.2.2.2.2.1,Za bU _ _ hS0.2.2.2.2.2.1,Below.size bU⟩ (fun hS23=>?_)
     clear hK hal
     clear hG
     generalize (U2.alloc (.cells #[.int .i64 (k:Int)] 3))=U3 at *
     try simp only [Act.put,tka,tkb,tkc]
     refine tkr 10 83 (fun K hK=>?_)
     refine Xs rfl _ _ 72 rfl U0.heap.size 3 i0 (.int .i64 0) 1 8 Tryz.underlying72 hi hz0 hz1 hz2 rfl (by decide) v2 (0+ls.length) ([]++ls.map (Value.int .i64)) rfl q ⟨G,0,none⟩ 1 1 [.int .i64 (k:Int)] rfl rfl (Hh e0) (K2 [(k:Int)]) (by unfold maxLen;omega) (by omega) hszU ?_
     intro v4 U4 q2 gr hob
     replace bU:=bU.grown gr bU.size (fun g hg=>(q.lt g hg).1)
     replace hszU:U0.heap.size≤U4.heap.size:=Nat.le_trans hszU gr.size
     refine hK.out _ _ ⟨Za bU _ _ hS0.1,Za bU _ _ hS0.2.1,Za bU _ _ hS0.2.2.1,Za bU _ _ hS0.2.2.2.1,Za bU _ _ hS0.2.2.2.2.1,Za bU _ _ hS0.2.2.2.2.2.1,Below.size bU⟩ (fun hS24=>?_)
     clear hK q gr hob
     have q:=q2
     clear q2
     clear e0 hap
     try simp only [Act.put,tka,tkb,tkc]
     refine tkr 12 85 (fun K hK=>?_)
     obtain ⟨lg,lc9,rfl⟩:=UJ q (by omega)
     have e9:0+ls.length+1=(ls++[(k:Int)]).length:=by simp
     generalize 0+ls.length+1=n1 at *
     have q9:U4.ownsRow U0.heap.size 3 1 (.slice (some ⟨lg,0,none⟩) n1 lc9) n1 ((ls++[(k:Int)]).map (Value.int .i64)):=by simpa using q
     have kIx:=kI U4 a9 cs ((z0a,z0n,z0c),(z1a,z1n,z1c),(z2a,z2n,z2c),(z3a,z3n,z3c)) lg 0 lc9 xb xo xc (hR.below (Zb bwr bU)) (hM.below bU) (by have:=Ll q9;rw [e9] at this;exact this) (hO.below bU)
     rw [uz,← e9] at kIx
     clear e9 q9 q kI
     go_simp
     refine kIx.mono ?_
     rintro e Va ⟨⟨rb,ro,rn,rc9,rfl,hR9⟩,hb⟩
     go_wp2_with fail
     have bV:=Zb bU hb
     refine hK.out _ _ ⟨Za bV _ _ hS0.1,Za bV _ _ hS0.2.1,Za bV _ _ hS0.2.2.1,Za bV _ _ hS0.2.2.2.1,Za bV _ _ hS0.2.2.2.2.1,Za bV _ _ hS0.2.2.2.2.2.1,Below.size bV⟩ (fun hS39=>?_)
     clear hK kIx hb
     try simp only [Act.put,tka,tkb,tkc]
     refine tkm 13 72 (.tuple #[.slice (some ⟨rb,ro,none⟩) rn rc9,.bool r.2]) ?_
     refine tkm 14 86 (.slice (some ⟨rb,ro,none⟩) rn rc9) ?_
     refine tkm 15 87 (.bool r.2) ?_
     refine tkm 16 18 (.slice (some ⟨rb,ro,none⟩) rn rc9) ?_
     refine tkm 17 19 (.bool r.2) ?_
     refine wpAnyH_done (by kernel_rfl) ?_ _
     replace bl:=Zb bl bV
     clear hS0 hszU bU bV pX hM hO hLx pPr bwr
     obtain rfl:rn=r.1.length:=hR9.1.symm
     obtain ⟨ro2,rk⟩:=r
     simp only at hR9 hrm
     cases rk with
     | true =>
      have st9:JC rows f m ls R w7 Va (.slice (some ⟨rb,ro,none⟩) ro2.length rc9) (i+1) ro2:=⟨HEQ.out,hrm.2 rfl,⟨_,_,_,rfl,hR9⟩,bl⟩
      clear HEQ hR9 bl hrm
      go_wp2
      go_roundw
      case rel=>exact ⟨i+1,ro2,by go_num,by omega,st9⟩
      case measure=>simp [Go.RowKit.intOf];omega
     | false =>
      have HF9:Hid (R=(ro2,false)):=by rw [Hid,← HEQ.out];exact Uq _ _
      clear HEQ hrm
      go_wp2
      go_ret2
      exact ⟨by rw [HF9.out];exact ⟨_,_,_,_,rfl,hR9⟩,Zb bw bl⟩
    obtain ⟨G,hG⟩:∃ G,G=U1.heap.size:=⟨_,rfl⟩
    have e0:(U1.alloc (.cells #[.int .i64 (k:Int)] 3)).cell? ⟨G,0,none⟩=some (.int .i64 (k:Int)):=by subst hG;simp [go_sem]
    have hal:Below U1.heap.size U1 (U1.alloc (.cells #[.int .i64 (k:Int)] 3)):=by go_grown
    have hap:∀ g,Value.ownBlock (.slice (some ⟨V1,0,none⟩) 0 0)=some g→g≠G:=fun g hg e=>by have:=(q.lt g hg).2;omega
    replace q:=Fw q hal
    replace bU:=Po bU hal
    replace hszU:U0.heap.size≤(U1.alloc (.cells #[.int .i64 (k:Int)] 3)).heap.size:=Nat.le_trans hszU hal.size
    go_simp
    rw [← hG]
    refine hK.out _ _ ⟨Za bU _ _ hS0.1,Za bU _ _ hS0.2.1,Za bU _ _ hS0.2.2.1,Za bU _ _ hS0.2.2.2.1,Za bU _ _ hS0.2.2.2.2.1,Za bU _ _ hS0.2.2.2.2.2.1,Below.size bU⟩ (fun hS26=>?_)
    clear hK hal
    clear hG
    generalize (U1.alloc (.cells #[.int .i64 (k:Int)] 3))=U6 at *
    try simp only [Act.put,tka,tkb,tkc]
    refine tkr 4 77 (fun K hK=>?_)
    have hGl:=World.block_lt_of_cell? _ _ e0
    refine Xs rfl _ _ 72 rfl U0.heap.size 3 i0 (.int .i64 0) 1 8 Tryz.underlying72 hi hz0 hz1 hz2 rfl (by decide) (.slice (some ⟨V1,0,none⟩) 0 0) 0 [] rfl q ⟨lb,lo,none⟩ ls.length lc (ls.map (Value.int .i64)) rfl (by rw [List.length_map];omega) (Hm (hLx.below bU)) (K2 _) (by unfold maxLen;omega) (by omega) hszU ?_
    intro v7 U7 q2 gr hob
    replace e0:=J3 gr e0 (fun e=>hap _ e.symm rfl)
    have hap2:∀ g,Value.ownBlock v7=some g→g≠G:=fun g hg e=>by
     rcases hob with hu | hu
     ·exact hap g (hu▸hg) e
     rw [hu] at hg
     simp at hg hGl
     omega
    clear hap hGl
    have hap:=hap2
    clear hap2
    replace bU:=bU.grown gr bU.size (fun g hg=>(q.lt g hg).1)
    replace hszU:U0.heap.size≤U7.heap.size:=Nat.le_trans hszU gr.size
    refine hK.out _ _ ⟨Za bU _ _ hS0.1,Za bU _ _ hS0.2.1,Za bU _ _ hS0.2.2.1,Za bU _ _ hS0.2.2.2.1,Za bU _ _ hS0.2.2.2.2.1,Za bU _ _ hS0.2.2.2.2.2.1,Below.size bU⟩ (fun hS27=>?_)
    clear hK q gr hob
    have q:=q2
    clear q2
    try simp only [Act.put,tka,tkb,tkc]
    refine tkr 10 83 (fun K hK=>?_)
    refine Xs rfl _ _ 72 rfl U0.heap.size 3 i0 (.int .i64 0) 1 8 Tryz.underlying72 hi hz0 hz1 hz2 rfl (by decide) v7 (0+ls.length) ([]++ls.map (Value.int .i64)) rfl q ⟨G,0,none⟩ 1 1 [.int .i64 (k:Int)] rfl rfl (Hh e0) (K2 [(k:Int)]) (by unfold maxLen;omega) (by omega) hszU ?_
    intro v8 U8 q2 gr hob
    replace bU:=bU.grown gr bU.size (fun g hg=>(q.lt g hg).1)
    replace hszU:U0.heap.size≤U8.heap.size:=Nat.le_trans hszU gr.size
    refine hK.out _ _ ⟨Za bU _ _ hS0.1,Za bU _ _ hS0.2.1,Za bU _ _ hS0.2.2.1,Za bU _ _ hS0.2.2.2.1,Za bU _ _ hS0.2.2.2.2.1,Za bU _ _ hS0.2.2.2.2.2.1,Below.size bU⟩ (fun hS28=>?_)
    clear hK q gr hob
    have q:=q2
    clear q2
    clear e0 hap
    try simp only [Act.put,tka,tkb,tkc]
    refine tkr 12 85 (fun K hK=>?_)
    obtain ⟨lg,lc9,rfl⟩:=UJ q (by omega)
    have e9:0+ls.length+1=(ls++[(k:Int)]).length:=by simp
    generalize 0+ls.length+1=n1 at *
    have q9:U8.ownsRow U0.heap.size 3 1 (.slice (some ⟨lg,0,none⟩) n1 lc9) n1 ((ls++[(k:Int)]).map (Value.int .i64)):=by simpa using q
    have kIx:=kI U8 a9 cs ((z0a,z0n,z0c),(z1a,z1n,z1c),(z2a,z2n,z2c),(z3a,z3n,z3c)) lg 0 lc9 xb xo xc (hR.below (Zb bwr bU)) (hM.below bU) (by have:=Ll q9;rw [e9] at this;exact this) (hO.below bU)
    rw [uz,← e9] at kIx
    clear e9 q9 q kI
    go_simp
    refine kIx.mono ?_
    rintro e Va ⟨⟨rb,ro,rn,rc9,rfl,hR9⟩,hb⟩
    go_wp2_with fail
    have bV:=Zb bU hb
    refine hK.out _ _ ⟨Za bV _ _ hS0.1,Za bV _ _ hS0.2.1,Za bV _ _ hS0.2.2.1,Za bV _ _ hS0.2.2.2.1,Za bV _ _ hS0.2.2.2.2.1,Za bV _ _ hS0.2.2.2.2.2.1,Below.size bV⟩ (fun hS39=>?_)
    clear hK kIx hb
    try simp only [Act.put,tka,tkb,tkc]
    refine tkm 13 72 (.tuple #[.slice (some ⟨rb,ro,none⟩) rn rc9,.bool r.2]) ?_
    refine tkm 14 86 (.slice (some ⟨rb,ro,none⟩) rn rc9) ?_
    refine tkm 15 87 (.bool r.2) ?_
    refine tkm 16 18 (.slice (some ⟨rb,ro,none⟩) rn rc9) ?_
    refine tkm 17 19 (.bool r.2) ?_
    refine wpAnyH_done (by kernel_rfl) ?_ _
    replace bl:=Zb bl bV
    clear hS0 hszU bU bV pX hM hO hLx pPr bwr
    obtain rfl:rn=r.1.length:=hR9.1.symm
    obtain ⟨ro2,rk⟩:=r
    simp only at hR9 hrm
    cases rk with
    | true =>
     have st9:JC rows f m ls R w7 Va (.slice (some ⟨rb,ro,none⟩) ro2.length rc9) (i+1) ro2:=⟨HEQ.out,hrm.2 rfl,⟨_,_,_,rfl,hR9⟩,bl⟩
     clear HEQ hR9 bl hrm
     go_wp2
     go_roundw
     case rel=>exact ⟨i+1,ro2,by go_num,by omega,st9⟩
     case measure=>simp [Go.RowKit.intOf];omega
    | false =>
     have HF9:Hid (R=(ro2,false)):=by rw [Hid,← HEQ.out];exact Uq _ _
     clear HEQ hrm
     go_wp2
     go_ret2
     exact ⟨by rw [HF9.out];exact ⟨_,_,_,_,rfl,hR9⟩,Zb bw bl⟩
   obtain ⟨G,hG⟩:∃ G,G=U0.heap.size:=⟨_,rfl⟩
   have e0:(U0.alloc (.cells #[.int .i64 (k:Int)] 3)).drew.cell? ⟨G,0,none⟩=some (.int .i64 (k:Int)):=by subst hG;simp [go_sem]
   have hal:Below U0.heap.size U0 (U0.alloc (.cells #[.int .i64 (k:Int)] 3)).drew:=by go_grown
   replace bU:=Po bU hal
   replace hszU:U0.heap.size≤(U0.alloc (.cells #[.int .i64 (k:Int)] 3)).drew.heap.size:=Nat.le_trans hszU hal.size
   go_simp
   rw [← hG]
   refine hK.out _ _ ⟨Za bU _ _ hS0.1,Za bU _ _ hS0.2.1,Za bU _ _ hS0.2.2.1,Za bU _ _ hS0.2.2.2.1,Za bU _ _ hS0.2.2.2.2.1,Za bU _ _ hS0.2.2.2.2.2.1,Below.size bU⟩ (fun hS30=>?_)
   clear hK hal
   clear hG
   generalize (U0.alloc (.cells #[.int .i64 (k:Int)] 3)).drew=U10 at *
   try simp only [Act.put,tka,tkb,tkc]
   refine tkr 2 75 (fun K hK=>?_)
   have q:=(Mw U10 3 1 U0.heap.size hszU)
   obtain ⟨V11,hV⟩:∃ V,V=U10.heap.size:=⟨_,rfl⟩
   have hap:∀ g,(Value.slice (some ⟨U10.heap.size,0,none⟩) 0 0).ownBlock=some g→g≠G:=fun g hg e=>by have hGl:=World.block_lt_of_cell? _ _ e0;simp [Value.ownBlock] at hg;simp at hGl;omega
   have hal:Below U10.heap.size U10 (U10.alloc (.cells #[] 3)):=by go_grown
   replace e0:=Fp hal e0
   replace bU:=Po bU hal
   replace hszU:U0.heap.size≤(U10.alloc (.cells #[] 3)).heap.size:=Nat.le_trans hszU hal.size
   go_simp
   rw [← hV]
   refine hK.out _ _ ⟨Za bU _ _ hS0.1,Za bU _ _ hS0.2.1,Za bU _ _ hS0.2.2.1,Za bU _ _ hS0.2.2.2.1,Za bU _ _ hS0.2.2.2.2.1,Za bU _ _ hS0.2.2.2.2.2.1,Below.size bU⟩ (fun hS31=>?_)
   clear hK hal
   replace q:(U10.alloc (.cells #[] 3)).ownsRow U0.heap.size 3 1 (.slice (some ⟨V11,0,none⟩) 0 0) 0 []:=by rw [hV];exact q
   replace hap:∀ g,(Value.slice (some ⟨V11,0,none⟩) 0 0).ownBlock=some g→g≠G:=by rw [hV];exact hap
   clear hV
   generalize (U10.alloc (.cells #[] 3))=U11 at *
   try simp only [Act.put,tka,tkb,tkc]
   refine tkr 4 77 (fun K hK=>?_)
   have hGl:=World.block_lt_of_cell? _ _ e0
   refine Xs rfl _ _ 72 rfl U0.heap.size 3 i0 (.int .i64 0) 1 8 Tryz.underlying72 hi hz0 hz1 hz2 rfl (by decide) (.slice (some ⟨V11,0,none⟩) 0 0) 0 [] rfl q ⟨lb,lo,none⟩ ls.length lc (ls.map (Value.int .i64)) rfl (by rw [List.length_map];omega) (Hm (hLx.below bU)) (K2 _) (by unfold maxLen;omega) (by omega) hszU ?_
   intro v12 U12 q2 gr hob
   replace e0:=J3 gr e0 (fun e=>hap _ e.symm rfl)
   have hap2:∀ g,Value.ownBlock v12=some g→g≠G:=fun g hg e=>by
    rcases hob with hu | hu
    ·exact hap g (hu▸hg) e
    rw [hu] at hg
    simp at hg hGl
    omega
   clear hap hGl
   have hap:=hap2
   clear hap2
   replace bU:=bU.grown gr bU.size (fun g hg=>(q.lt g hg).1)
   replace hszU:U0.heap.size≤U12.heap.size:=Nat.le_trans hszU gr.size
   refine hK.out _ _ ⟨Za bU _ _ hS0.1,Za bU _ _ hS0.2.1,Za bU _ _ hS0.2.2.1,Za bU _ _ hS0.2.2.2.1,Za bU _ _ hS0.2.2.2.2.1,Za bU _ _ hS0.2.2.2.2.2.1,Below.size bU⟩ (fun hS32=>?_)
   clear hK q gr hob
   have q:=q2
   clear q2
   try simp only [Act.put,tka,tkb,tkc]
   refine tkr 10 83 (fun K hK=>?_)
   refine Xs rfl _ _ 72 rfl U0.heap.size 3 i0 (.int .i64 0) 1 8 Tryz.underlying72 hi hz0 hz1 hz2 rfl (by decide) v12 (0+ls.length) ([]++ls.map (Value.int .i64)) rfl q ⟨G,0,none⟩ 1 1 [.int .i64 (k:Int)] rfl rfl (Hh e0) (K2 [(k:Int)]) (by unfold maxLen;omega) (by omega) hszU ?_
   intro v13 U13 q2 gr hob
   replace bU:=bU.grown gr bU.size (fun g hg=>(q.lt g hg).1)
   replace hszU:U0.heap.size≤U13.heap.size:=Nat.le_trans hszU gr.size
   refine hK.out _ _ ⟨Za bU _ _ hS0.1,Za bU _ _ hS0.2.1,Za bU _ _ hS0.2.2.1,Za bU _ _ hS0.2.2.2.1,Za bU _ _ hS0.2.2.2.2.1,Za bU _ _ hS0.2.2.2.2.2.1,Below.size bU⟩ (fun hS33=>?_)
   clear hK q gr hob
   have q:=q2
   clear q2
   clear e0 hap
   try simp only [Act.put,tka,tkb,tkc]
   refine tkr 12 85 (fun K hK=>?_)
   obtain ⟨lg,lc9,rfl⟩:=UJ q (by omega)
   have e9:0+ls.length+1=(ls++[(k:Int)]).length:=by simp
   generalize 0+ls.length+1=n1 at *
   have q9:U13.ownsRow U0.heap.size 3 1 (.slice (some ⟨lg,0,none⟩) n1 lc9) n1 ((ls++[(k:Int)]).map (Value.int .i64)):=by simpa using q
   have kIx:=kI U13 a9 cs ((z0a,z0n,z0c),(z1a,z1n,z1c),(z2a,z2n,z2c),(z3a,z3n,z3c)) lg 0 lc9 xb xo xc (hR.below (Zb bwr bU)) (hM.below bU) (by have:=Ll q9;rw [e9] at this;exact this) (hO.below bU)
   rw [uz,← e9] at kIx
   clear e9 q9 q kI
   go_simp
   refine kIx.mono ?_
   rintro e Va ⟨⟨rb,ro,rn,rc9,rfl,hR9⟩,hb⟩
   go_wp2_with fail
   have bV:=Zb bU hb
   refine hK.out _ _ ⟨Za bV _ _ hS0.1,Za bV _ _ hS0.2.1,Za bV _ _ hS0.2.2.1,Za bV _ _ hS0.2.2.2.1,Za bV _ _ hS0.2.2.2.2.1,Za bV _ _ hS0.2.2.2.2.2.1,Below.size bV⟩ (fun hS39=>?_)
   clear hK kIx hb
   try simp only [Act.put,tka,tkb,tkc]
   refine tkm 13 72 (.tuple #[.slice (some ⟨rb,ro,none⟩) rn rc9,.bool r.2]) ?_
   refine tkm 14 86 (.slice (some ⟨rb,ro,none⟩) rn rc9) ?_
   refine tkm 15 87 (.bool r.2) ?_
   refine tkm 16 18 (.slice (some ⟨rb,ro,none⟩) rn rc9) ?_
   refine tkm 17 19 (.bool r.2) ?_
   refine wpAnyH_done (by kernel_rfl) ?_ _
   replace bl:=Zb bl bV
   clear hS0 hszU bU bV pX hM hO hLx pPr bwr
   obtain rfl:rn=r.1.length:=hR9.1.symm
   obtain ⟨ro2,rk⟩:=r
   simp only at hR9 hrm
   cases rk with
   | true =>
    have st9:JC rows f m ls R w7 Va (.slice (some ⟨rb,ro,none⟩) ro2.length rc9) (i+1) ro2:=⟨HEQ.out,hrm.2 rfl,⟨_,_,_,rfl,hR9⟩,bl⟩
    clear HEQ hR9 bl hrm
    go_wp2
    go_roundw
    case rel=>exact ⟨i+1,ro2,by go_num,by omega,st9⟩
    case measure=>simp [Go.RowKit.intOf];omega
   | false =>
    have HF9:Hid (R=(ro2,false)):=by rw [Hid,← HEQ.out];exact Uq _ _
    clear HEQ hrm
    go_wp2
    go_ret2
    exact ⟨by rw [HF9.out];exact ⟨_,_,_,_,rfl,hR9⟩,Zb bw bl⟩
  have hge:¬ (i:Int)<(en:Int):=by omega
  have HF9:Hid (R=(out,true)):=by
   rw [Hid,← heq,List.drop_of_length_le (by rw [HLN.out];omega)]
   rfl
  clear heq pP pS hEI hL
  go_wp2
  go_ret2
  exact ⟨by rw [HF9.out];exact ⟨_,_,_,_,rfl,hO⟩,Zb bw bl⟩
theorem SB {rows:List (List I3)} {cap:Nat} (hp:Zn rows=true):∀ f,ClC rows cap f
 | 0=>fun m ls out hs hf=>by omega
 | f+1=>Pr hp (SB hp f)

open Go.RowKit Go.ChangeShapes

theorem Nn:Tryz.prog.globalNamed "loop.example/g00632/impl.vmShape"=some 0:=by kernel_rfl
theorem GE:(Tryz.prog.globals[0]?).map (·.type)=some 254:=by kernel_rfl

section
variable {H : Type} {enc : TypeId × Value → H} {w : World} {base : Nat} {spare : Nat → Bool} {held : Bool}
theorem VJ {fuel:Nat} {cs:List Value} {a b:Int} {p:List MemPlace} (h:DataW.trod enc Tryz.prog w base spare held fuel 253 cs=some (.agg [.lit (.int .i64 a),.lit (.int .i64 b)],p)):cs=[.int .i64 a,.int .i64 b]:=by
 obtain ⟨y0,y1,n,hx,hl,h0,h1⟩:=trod_struct2 Tryz.underlying253 h
 have hl2:cs.length=2:=hl.trans (by kernel_rfl)
 have hk:Tryz.prog.cellsOf 3=1:=by kernel_rfl
 match cs,hl2 with
 | [c0,c1],_ =>
  simp only [hk] at h0 h1
  obtain ⟨z0,e0,hy0,_⟩:=DataW.trod_int Tryz.underlying3 h0
  obtain ⟨z1,e1,hy1,_⟩:=DataW.trod_int Tryz.underlying3 h1
  simp at e0 e1
  subst hy0 hy1 e0 e1
  simp at hx
  simp [hx]
theorem Ma {fuel:Nat} {cs:List Value} {p:List MemPlace} (h:DataW.trod enc Tryz.prog w base spare held fuel 254 cs=some (Rows.laid_loop_example_g00632_impl_vmShape,p)):cs=[3,6,4,9,2,3,6,9].map (Value.int .i64):=by
 obtain ⟨xs,m,_,hx,hl,hn,hi⟩:=DataW.trod_array Tryz.underlying254 h
 have hk:Tryz.prog.cellsOf 253=2:=by kernel_rfl
 have hl8:cs.length=8:=hl.trans (by kernel_rfl)
 rw [hk] at hi
 match xs,hn with
 | [⟨x0,p0⟩,⟨x1,p1⟩,⟨x2,p2⟩,⟨x3,p3⟩],_ =>
  unfold Rows.laid_loop_example_g00632_impl_vmShape at hx
  simp at hx
  obtain ⟨⟨rfl,rfl,rfl,rfl⟩,_⟩:=hx
  match cs,hl8 with
  | [c0,c1,c2,c3,c4,c5,c6,c7],_ =>
   have g0:=VJ (hi 0 (by decide))
   have g1:=VJ (hi 1 (by decide))
   have g2:=VJ (hi 2 (by decide))
   have g3:=VJ (hi 3 (by decide))
   simp at g0 g1 g2 g3
   simp [g0,g1,g2,g3]
end

theorem SV {W:World} {p:List (String × DataW Unit)} (hp:p=[("loop.example/g00632/impl.vmShape",Rows.laid_loop_example_g00632_impl_vmShape)]) (h:laidMetH Tryz.prog p W):Ys W:=by
 subst hp
 rw [MakeChecks.laidMetH_plain _ _ _ (by kernel_rfl)] at h
 obtain ⟨ps,⟨g0,t0,cs0,f0,p0,q0,hg0,ht0,hv0,hd0,_,_⟩,_,_⟩:=h
 obtain rfl:=Option.some.inj (Nn.symm.trans hg0)
 obtain rfl:=Option.some.inj (GE.symm.trans ht0)
 have hcs:=Ma hd0
 unfold World.var? at hv0
 simp only [Nn,Option.bind_some] at hv0
 cases hh:W.heap[0]? with
 | none=>rw [hh] at hv0;cases hv0
 | some o =>
  rw [hh] at hv0
  cases o with
  | cells cs t fr =>
   simp only [Option.some.injEq] at hv0
   subst hv0
   intro i v hi
   rw [← hcs] at hi
   simp only [World.cell?,hh]
   simpa using hi
  | _=>cases hv0
end Go.Proofs.YtmhlokahmblboaaGreatDoor
