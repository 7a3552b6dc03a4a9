/-
  Joined: LocS, ChkU, TxeP, ChkW, Vj2P, CkcI, MemK, Cn3I.
-/
import Derived.Shelf.SlIter.Nil
import Derived.Sort.KeysCollected
import Derived.Test.YtmhlokahmblboaaGreatDoorQ39
import Derived.Test.YtmhlokahmblboaaGreatDoorQ40

namespace Go.Proofs.YtmhlokahmblboaaGreatDoor
set_option maxRecDepth 100000
set_option maxHeartbeats 16000000
open Go.RowKit
set_option linter.unusedVariables false
set_option linter.unusedSimpArgs false

def WS (rows:List (List I3)) (m:V4) (j:Nat):List I3:=((Zt rows m 3).take j).foldl (fun out k=>ZG out (Xm rows m k)) (Zw rows m)
theorem KV (rows:List (List I3)) (m:V4):WS rows m 0=Zw rows m:=rfl
theorem Q5 {rows:List (List I3)} {m:V4} {j:Nat} {k:Int} (h:(Zt rows m 3)[j]?=some k):WS rows m (j+1)=ZG (WS rows m j) (Xm rows m k):=by
 unfold WS
 rw [List.take_add_one,h]
 simp [List.foldl_append]
theorem NR {rows:List (List I3)} {m:V4} {j:Nat} (h:(Zt rows m 3).length≤j):WS rows m j=ZL rows m:=by
 unfold WS ZL
 rw [List.take_of_length_le h]
theorem Gv (rows:List (List I3)) (m:V4):(∀ x ∈ Zw rows m,okB x=true)∧(Zw rows m).length≤1:=by
 unfold Zw
 split
 ·exact ⟨fun x hx=>by simp at hx;subst hx;rfl,by simp⟩
 exact ⟨fun x hx=>by simp at hx,by simp⟩
theorem PT {rows:List (List I3)} {m:V4} (hp:Zq rows=true) (hs:Ze m=true):∀ j,(∀ x ∈ WS rows m j,okB x=true)∧(WS rows m j).length≤1+2*j
 | 0=>by rw [KV];exact Gv rows m
 | j+1=>by
  have ih:=PT hp hs j
  cases h:(Zt rows m 3)[j]? with
  | none =>
   have e:WS rows m (j+1)=WS rows m j:=by unfold WS;rw [List.take_add_one,h];simp
   rw [e]
   exact ⟨ih.1,by omega⟩
  | some k =>
   have hf:=QS hp hs (WD (List.mem_of_getElem? h))
   rw [Q5 h]
   exact ⟨K3 ih.1 hf.1,by have:=M5 (WS rows m j) (Xm rows m k);have:=hf.2;omega⟩
theorem GC {rows:List (List I3)} {m:V4} (hp:Zq rows=true) (hs:Ze m=true):(∀ x ∈ ZL rows m,okB x=true)∧(ZL rows m).length≤7:=by
 have h:=PT hp hs (Zt rows m 3).length
 rw [NR (Nat.le_refl _)] at h
 have:=Xh rows m 3
 exact ⟨h.1,by omega⟩
theorem NJ {w:World} {a:Option Addr} {cap:Nat} {cs:Sl × Sl × Sl} {rows:List (List I3)} {s:S4} {m:V4} (hR:Z5 w a cs rows) (h:Yv w s m) (hp:Zq rows=true) (hs:Ze m=true) :
  Calls Tryz.prog 148 #[.agg #[.slice a 3 cap],s.val] w fun e w'=>WT e w' w.heap.size (ZL rows m)∧Below w.heap.size w w':=by
 obtain ⟨i0,hi9,hz0,hz1,hz2⟩:=info_parts Y6
 obtain ⟨⟨t0a,t0n,t0c⟩,⟨t1a,t1n,t1c⟩,⟨t2a,t2n,t2c⟩,⟨t3a,t3n,t3c⟩⟩:=s
 have ut:S4.val ((t0a,t0n,t0c),(t1a,t1n,t1c),(t2a,t2n,t2c),(t3a,t3n,t3c))=.agg #[.slice t0a t0n t0c,.slice t1a t1n t1c,.slice t2a t2n t2c,.slice t3a t3n t3c]:=rfl
 have kU:=fun (W:World) (b:Below w.heap.size w W)=>So a 3 cap rows ((t0a,t0n,t0c),(t1a,t1n,t1c),(t2a,t2n,t2c),(t3a,t3n,t3c)) m cs W rfl (hR.below b) (h.below b) hp hs
 have kE:=fun (W:World) (b:Below w.heap.size w W)=>Vf a 3 cap rows ((t0a,t0n,t0c),(t1a,t1n,t1c),(t2a,t2n,t2c),(t3a,t3n,t3c)) m cs W rfl (hR.below b) (h.below b) hp hs
 rw [ut] at kU kE ⊢
 have bw:Below w.heap.size w (((w.alloc (.cells #[.slice a 3 cap] 25)).alloc (.cells #[.slice t0a t0n t0c,.slice t1a t1n t1c,.slice t2a t2n t2c,.slice t3a t3n t3c] 74)).alloc (.cells #[] 90)):=by go_grown
 have pP:Blk (((w.alloc (.cells #[.slice a 3 cap] 25)).alloc (.cells #[.slice t0a t0n t0c,.slice t1a t1n t1c,.slice t2a t2n t2c,.slice t3a t3n t3c] 74)).alloc (.cells #[] 90)) w.heap.size 25 [.slice a 3 cap]:=Zf _ (Zf _ (Zh _ _ _ rfl))
 have pS:Blk (((w.alloc (.cells #[.slice a 3 cap] 25)).alloc (.cells #[.slice t0a t0n t0c,.slice t1a t1n t1c,.slice t2a t2n t2c,.slice t3a t3n t3c] 74)).alloc (.cells #[] 90)) (w.heap.size+1) 74 [.slice t0a t0n t0c,.slice t1a t1n t1c,.slice t2a t2n t2c,.slice t3a t3n t3c]:=Zf _ (Zh _ _ _ (by simp))
 have q:(((w.alloc (.cells #[.slice a 3 cap] 25)).alloc (.cells #[.slice t0a t0n t0c,.slice t1a t1n t1c,.slice t2a t2n t2c,.slice t3a t3n t3c] 74)).alloc (.cells #[] 90)).ownsRow w.heap.size 90 3 (.slice (some ⟨w.heap.size+1+1,0,none⟩) 0 0) 0 []:=by
  have h9:=Xd ((w.alloc (.cells #[.slice a 3 cap] 25)).alloc (.cells #[.slice t0a t0n t0c,.slice t1a t1n t1c,.slice t2a t2n t2c,.slice t3a t3n t3c] 74)) 90 3 w.heap.size (by simp;omega)
  simpa using h9
 obtain ⟨g0,hg0⟩:∃ g0,g0=w.heap.size+1+1:=⟨_,rfl⟩
 go_enter Tryz.func148,Tryz.ntmps148
 go_wp2_with fail
 rw [← hg0] at q ⊢
 clear hg0
 generalize ((w.alloc (.cells #[.slice a 3 cap] 25)).alloc (.cells #[.slice t0a t0n t0c,.slice t1a t1n t1c,.slice t2a t2n t2c,.slice t3a t3n t3c] 74)).alloc (.cells #[] 90)=U at *
 have kUx:=kU U bw
 clear kU
 go_wp2_with (first | refine Zc rfl 25 _ rfl w.heap.size rfl pP _ Tryz.underlying25 rfl (by kernel_rfl) ?_ | refine Zc rfl 74 _ rfl (w.heap.size+1) rfl pS _ Tryz.underlying74 rfl (by kernel_rfl) ?_)
 refine kUx.mono ?_
 rintro e w1 ⟨rfl,hb⟩
 replace bw:=Zb bw hb
 replace pP:=pP.below hb
 replace pS:=pS.below hb
 replace q:=Zz q hb
 clear hb kUx
 have key:∀ (W:World) (v:Value),Hid (W.ownsRow w.heap.size 90 3 v (Zw rows m).length (Zk (Zw rows m)))→Hid (W.ownsRow w.heap.size 90 3 v (WS rows m 0).length (Zk (WS rows m 0))):=fun W v h=>h
 cases hst:Wq rows m
 focus
  have HQ:Hid (w1.ownsRow w.heap.size 90 3 (.slice (some ⟨g0,0,none⟩) 0 0) (Zw rows m).length (Zk (Zw rows m))):=by
   unfold Zw
   rw [hst]
   exact q
  clear q hst
  have kEx:=kE w1 bw
 rotate_left
 focus
  have HD:Hid (Zw rows m=[(14,0,0)]):=by rw [Hid];unfold Zw;rw [hst];rfl
  clear hst
  go_wp2_with (at_builtin;refine wpList_append_own_at _ rfl _ _ 29 rfl w.heap.size 90 i0 (.agg #[.int .i64 0,.int .i64 0,.int .i64 0]) 3 24 Tryz.underlying29 hi9 hz0 hz1 hz2 rfl (by decide) _ _ _ rfl (q.alloc _) ⟨w1.heap.size,0,none⟩ 1 1 [.int .i64 14,.int .i64 0,.int .i64 0] rfl rfl (Lk (Zh _ _ _ rfl)) (Um _ _ _) ?c3 ?c4 ?c5 ?_)
  case c3=>unfold maxLen;omega
  case c4=>omega
  case c5=>have:=bw.size;simp;omega
  intro v6 w4 q6 gr _ at6
  have ha:Below w1.heap.size w1 (w1.alloc (.cells #[.int .i64 14,.int .i64 0,.int .i64 0] 90)):=by go_grown
  replace pP:=(pP.below ha).kept gr (Zo (q.alloc _) (pP.below ha) (by decide))
  replace pS:=(pS.below ha).kept gr (Zo (q.alloc _) (pS.below ha) (by decide))
  replace bw:=(Zb bw ha).grown gr (Zb bw ha).size (fun k e=>(Yf (q.alloc (.cells #[.int .i64 14,.int .i64 0,.int .i64 0] 90)) e).1)
  have HQ:Hid (w4.ownsRow w.heap.size 90 3 v6 (Zw rows m).length (Zk (Zw rows m))):=by
   rw [HD.out]
   exact q6
  clear q q6 gr at6 ha HD
  have kEx:=kE w4 bw
 all_goals
  clear kE
  go_wp2_with (first | refine Zc rfl 25 _ rfl w.heap.size rfl pP _ Tryz.underlying25 rfl (by kernel_rfl) ?_ | refine Zc rfl 74 _ rfl (w.heap.size+1) rfl pS _ Tryz.underlying74 rfl (by kernel_rfl) ?_)
  refine kEx.mono ?_
  rintro e w6 ⟨⟨⟨la,ln,lc⟩,rfl,hL⟩,hb⟩
  replace bw:=Zb bw hb
  replace pP:=pP.below hb
  replace pS:=pS.below hb
  have HQ2:=key w6 _ (Zz HQ.out hb)
  clear hb kEx HQ key
  have hLn:(Zt rows m 3).length=ln:=by have:=hL.1;simpa using this
  have hl3:=Xh rows m 3
  go_wp2_with fail
  go_loopw [5,7] (fun s5 s7 wr=>∃ j:Nat,s7=.int .i64 j∧j≤ln∧Hid (wr.ownsRow w.heap.size 90 3 s5 (WS rows m j).length (Zk (WS rows m j)))∧Below w6.heap.size w6 wr) (fun _ s7 _=>ln - (intOf s7).toNat)
  case atStart=>exact ⟨0,rfl,Nat.zero_le _,HQ2,Below.refl _ _⟩
  case round =>
   clear HQ2
   obtain ⟨j,rfl,hjn,HQ,bq⟩:=hrel
   have q:=HQ.out
   obtain ⟨va,vn,vc,rfl⟩:=RR q
   obtain ⟨hlo,hll⟩:=PT hp hs j
   replace bw:=Zb bw bq
   replace pP:=pP.below bq
   replace pS:=pS.below bq
   replace hL:=hL.below bq
   clear HQ
   by_cases hlt2:j<ln
   ·have hkj:(Zt rows m 3)[j]?=some ((Zt rows m 3).getD j 0):=by rw [List.getD,List.getElem?_eq_getElem (by omega)];rfl
    have hz:=WD (List.mem_of_getElem? hkj)
    obtain ⟨h0k,h2k,hd9,_⟩:=WL hz
    obtain ⟨k,hk⟩:∃ k:Nat,(Zt rows m 3).getD j 0=(k:Int):=⟨_,(Int.toNat_of_nonneg h0k).symm⟩
    obtain ⟨lb,lo,rfl,hc,hlb⟩:=Uz hL.ints (show j<ln from hlt2)
    rw [hk] at hkj hz hd9 h0k h2k hc
    rw [Int.toNat_natCast] at hd9
    have hk3:k<3:=by omega
    clear hk hlb
    have hfo:=QS hp hs hz
    have HLS:Hid (WS rows m (j+1)=ZG (WS rows m j) (Xm rows m (k:Int))):=Q5 hkj
    have kP:=fun (W:World) (b:Below w.heap.size w W)=>NI (cap:=cap) (hR.below b) (h.below b) hp hs hk3 hd9
    rw [ut] at kP
    generalize (goM rows m (k:Int)).1=z at *
    generalize Xm rows m (k:Int)=fs at *
    have hlt3:(j:Int)<(ln:Int):=by omega
    have hj0:(0:Int)≤(j:Int):=by omega
    clear hkj hz hd9
    go_wp2_with fail
    have hb9:Below wr.heap.size wr wr.drew:=by go_grown
    refine wp_region_held_drew (S:=(fun w'=>w'.cell? ⟨w.heap.size,0,none⟩=some (.slice a 3 cap)∧w'.cell? ⟨w.heap.size+1,0,none⟩=some (.slice t0a t0n t0c)∧w'.cell? ⟨w.heap.size+1,1,none⟩=some (.slice t1a t1n t1c)∧w'.cell? ⟨w.heap.size+1,2,none⟩=some (.slice t2a t2n t2c)∧w'.cell? ⟨w.heap.size+1,3,none⟩=some (.slice t3a t3n t3c)∧w'.cell? ⟨lb,lo+j,none⟩=some (.int .i64 (k:Int)))) (by kernel_rfl) ⟨by simpa using pP.cell 0,by simpa using pS.cell 0,by simpa using pS.cell 1,by simpa using pS.cell 2,by simpa using pS.cell 3,hc⟩ (fun hS0=>?_)
    refine tkm 0 28 (.agg #[.slice a 3 cap]) ?_
    refine tkm 1 29 (.agg #[.slice t0a t0n t0c,.slice t1a t1n t1c,.slice t2a t2n t2c,.slice t3a t3n t3c]) ?_
    refine tkm 2 30 (.slice (some ⟨lb,lo,none⟩) ln lc) ?_
    refine tkm 3 31 (.int .i64 (j:Int)) ?_
    refine tkm 4 32 (.pointer (some ⟨lb,lo+j,none⟩)) ?_
    refine tkm 5 33 (.int .i64 (k:Int)) ?_
    replace bw:=Zb bw hb9
    replace bq:=Zb bq hb9
    replace q:=Zz q hb9
    clear hb9
    generalize wr.drew=V at *
    refine wpAnyH_ready (rs:=[6,10]) (by kernel_rfl) (by simp) ?_
    refine AllReadyH.cons (o:=⟨some 34,_,_,_,_,_⟩) rfl (fun K hK=>?_) (AllReadyH.cons (o:=⟨some 8,_,_,_,_,_⟩) rfl (fun K hK=>?_) AllReadyH.nil)
    focus
     have kPx:=kP V bw
     go_simp
     refine kPx.mono ?_
     rintro e V1 ⟨⟨⟨⟨z0a,z0n,z0c⟩,⟨z1a,z1n,z1c⟩,⟨z2a,z2n,z2c⟩,⟨z3a,z3n,z3c⟩⟩,v9,rfl,hO2,qf⟩,hb1⟩
     have uz:S4.val ((z0a,z0n,z0c),(z1a,z1n,z1c),(z2a,z2n,z2c),(z3a,z3n,z3c))=.agg #[.slice z0a z0n z0c,.slice z1a z1n z1c,.slice z2a z2n z2c,.slice z3a z3n z3c]:=rfl
     rw [uz]
     clear uz
     obtain ⟨fa,fc,rfl,hI9,hGd9⟩:=Wg qf (fun x hx=>XB (hfo.1 x hx))
     clear hGd9 hO2 hI9
     go_wp2_with fail
     refine hK.out _ _ ⟨Za hb1 _ _ hS0.1,Za hb1 _ _ hS0.2.1,Za hb1 _ _ hS0.2.2.1,Za hb1 _ _ hS0.2.2.2.1,Za hb1 _ _ hS0.2.2.2.2.1,Za hb1 _ _ hS0.2.2.2.2.2⟩ (fun hS5=>?_)
     clear hK kPx
     try simp only [Act.put,tka,tkb,tkc]
     refine tkm 7 27 (.tuple #[.agg #[.slice z0a z0n z0c,.slice z1a z1n z1c,.slice z2a z2n z2c,.slice z3a z3n z3c],.slice fa fs.length fc]) ?_
     refine tkm 8 35 (.agg #[.slice z0a z0n z0c,.slice z1a z1n z1c,.slice z2a z2n z2c,.slice z3a z3n z3c]) ?_
     refine tkm 9 36 (.slice fa fs.length fc) ?_
     refine tkr 10 8 (fun K hK=>?_)
     have hb2:Below V1.heap.size V1 (V1.alloc (.cells #[.slice none 0 0,.slice none 0 0,.slice none 0 0,.slice none 0 0] 74)):=by go_grown
     have pX:Blk (V1.alloc (.cells #[.slice none 0 0,.slice none 0 0,.slice none 0 0,.slice none 0 0] 74)) V1.heap.size 74 [.slice none 0 0,.slice none 0 0,.slice none 0 0,.slice none 0 0]:=Zh _ _ _ rfl
     replace qf:=Zz qf hb2
     have hbA:=Zb hb1 hb2
     have hYV:V.heap.size≤V1.heap.size:=hb1.size
     go_simp
     refine hK.out _ _ ⟨Za hbA _ _ hS0.1,Za hbA _ _ hS0.2.1,Za hbA _ _ hS0.2.2.1,Za hbA _ _ hS0.2.2.2.1,Za hbA _ _ hS0.2.2.2.2.1,Za hbA _ _ hS0.2.2.2.2.2⟩ (fun hS6=>?_)
     clear hK hb1 hb2
     generalize (V1.alloc (.cells #[.slice none 0 0,.slice none 0 0,.slice none 0 0,.slice none 0 0] 74))=V2 at *
     generalize V1.heap.size=Y at *
     try simp only [Act.put,tka,tkb,tkc]
    rotate_left
    focus
     have hb1:Below V.heap.size V (V.alloc (.cells #[.slice none 0 0,.slice none 0 0,.slice none 0 0,.slice none 0 0] 74)):=by go_grown
     have pX:Blk (V.alloc (.cells #[.slice none 0 0,.slice none 0 0,.slice none 0 0,.slice none 0 0] 74)) V.heap.size 74 [.slice none 0 0,.slice none 0 0,.slice none 0 0,.slice none 0 0]:=Zh _ _ _ rfl
     have hYV:V.heap.size≤V.heap.size:=Nat.le_refl _
     go_simp
     refine hK.out _ _ ⟨Za hb1 _ _ hS0.1,Za hb1 _ _ hS0.2.1,Za hb1 _ _ hS0.2.2.1,Za hb1 _ _ hS0.2.2.2.1,Za hb1 _ _ hS0.2.2.2.2.1,Za hb1 _ _ hS0.2.2.2.2.2⟩ (fun hS6=>?_)
     clear hK
     have kPx:=kP _ (Zb bw hb1)
     generalize (V.alloc (.cells #[.slice none 0 0,.slice none 0 0,.slice none 0 0,.slice none 0 0] 74))=V2 at *
     obtain ⟨Y,hY⟩:∃ Y,Y=V.heap.size:=⟨_,rfl⟩
     rw [← hY] at pX hYV ⊢
     replace hYV:V.heap.size≤Y:=by omega
     clear hY
     try simp only [Act.put,tka,tkb,tkc]
     refine tkr 6 34 (fun K hK=>?_)
     go_simp
     refine kPx.mono ?_
     rintro e V3 ⟨⟨⟨⟨z0a,z0n,z0c⟩,⟨z1a,z1n,z1c⟩,⟨z2a,z2n,z2c⟩,⟨z3a,z3n,z3c⟩⟩,v9,rfl,hO2,qf⟩,hb2⟩
     have uz:S4.val ((z0a,z0n,z0c),(z1a,z1n,z1c),(z2a,z2n,z2c),(z3a,z3n,z3c))=.agg #[.slice z0a z0n z0c,.slice z1a z1n z1c,.slice z2a z2n z2c,.slice z3a z3n z3c]:=rfl
     rw [uz]
     clear uz
     obtain ⟨fa,fc,rfl,hI9,hGd9⟩:=Wg qf (fun x hx=>XB (hfo.1 x hx))
     clear hGd9 hO2 hI9
     go_wp2_with fail
     have hbA:=Zb hb1 hb2
     replace pX:=pX.below hb2
     refine hK.out _ _ ⟨Za hbA _ _ hS0.1,Za hbA _ _ hS0.2.1,Za hbA _ _ hS0.2.2.1,Za hbA _ _ hS0.2.2.2.1,Za hbA _ _ hS0.2.2.2.2.1,Za hbA _ _ hS0.2.2.2.2.2⟩ (fun hS5=>?_)
     clear hK kPx hb1 hb2
     try simp only [Act.put,tka,tkb,tkc]
     refine tkm 7 27 (.tuple #[.agg #[.slice z0a z0n z0c,.slice z1a z1n z1c,.slice z2a z2n z2c,.slice z3a z3n z3c],.slice fa fs.length fc]) ?_
     refine tkm 8 35 (.agg #[.slice z0a z0n z0c,.slice z1a z1n z1c,.slice z2a z2n z2c,.slice z3a z3n z3c]) ?_
     refine tkm 9 36 (.slice fa fs.length fc) ?_
    all_goals
     refine tkz 11 (fun K hK=>?_)
     refine SQ rfl 74 _ _ rfl Y [.slice z0a z0n z0c,.slice z1a z1n z1c,.slice z2a z2n z2c,.slice z3a z3n z3c] rfl rfl pX (by kernel_rfl) rfl rfl ?_
     intro V8 pX8 g8
     have hbig:=hbA.grown g8 hbA.size (fun q hq=>by cases hq;exact hYV)
     replace qf:=qf.kept g8 (Uq qf pX (by decide))
     obtain ⟨fa9,fc9,ef9,hI8,hGd8⟩:=Wg qf (fun x hx=>XB (hfo.1 x hx))
     cases ef9
     clear hGd8 qf
     refine hK.out _ _ ⟨Za hbig _ _ hS0.1,Za hbig _ _ hS0.2.1,Za hbig _ _ hS0.2.2.1,Za hbig _ _ hS0.2.2.2.1,Za hbig _ _ hS0.2.2.2.2.1,Za hbig _ _ hS0.2.2.2.2.2⟩ (fun hS7=>?_)
     clear hK pX g8 hbA hYV pX8
     try simp only [Act.put,tka,tkb,tkc]
     refine tkm 12 9 (.slice fa fs.length fc) ?_
     refine wpAnyH_done (by kernel_rfl) ?_ _
     replace bw:=Zb bw hbig
     replace bq:=Zb bq hbig
     replace q:=Zz q hbig
     clear hbig hS0 hS5 hS6 hS7 pP pS kP hc hL
     obtain ⟨va9,vc9,ev9,hIv,hGv⟩:=Wg q (fun x hx=>XB (hlo x hx))
     cases ev9
     have kM:=Sp va (WS rows m j).length vc (WS rows m j) fa fs.length fc fs V8 hIv hI8 (by omega) (by have:=hfo.2;omega)
     clear hIv hGv hI8 q
     go_wp2_with fail
     refine kM.mono ?_
     rintro e V10 ⟨⟨v6,rfl,q6⟩,hb⟩
     have hV8:=bw.size
     have HQ9:Hid (V10.ownsRow w.heap.size 90 3 v6 (WS rows m (j+1)).length (Zk (WS rows m (j+1)))):=by rw [HLS.out];exact WG q6 hV8
     have bq9:=Zb bq hb
     clear hb q6 kM HLS bq bw
     go_wp2
     go_roundw
     case rel=>exact ⟨j+1,by go_num,by omega,HQ9,bq9⟩
     case measure=>simp [intOf];omega
   have hge2:¬ (j:Int)<(ln:Int):=by omega
   have HG:Hid (WT (.returned (.slice va vn vc)) wr w.heap.size (ZL rows m)):=by
    rw [← NR (j:=j) (by omega)]
    exact ⟨_,rfl,q⟩
   clear q hL pP pS
   go_wp2
   go_ret
   exact ⟨HG.out,bw⟩


theorem Ju {m:V4} {x:I3} {k:Nat} (h:(ZE m x k).2≠0):(ZE m x k).2=if x.1=6 then 13 else 12:=by
 by_cases h1:x.1=1
 ·exact absurd (by unfold ZE;rw [if_pos h1]) h
 by_cases h2:x.1=2
 ·exact absurd (by unfold ZE;rw [if_neg h1,if_pos h2]) h
 by_cases h3:x.1=3
 ·exact absurd (by unfold ZE;rw [if_neg h1,if_neg h2,if_pos h3]) h
 by_cases h4:x.1=4
 ·exact absurd (by unfold ZE;rw [if_neg h1,if_neg h2,if_neg h3,if_pos h4]) h
 by_cases h5:x.1=5
 ·exact absurd (by unfold ZE;rw [if_neg h1,if_neg h2,if_neg h3,if_neg h4,if_pos h5]) h
 by_cases h6:x.1=6
 ·rw [if_pos h6]
  by_cases hh:m.2.2.1.getD x.2.1.toNat 0=k+1
  ·exact absurd (by unfold ZE;rw [if_neg h1,if_neg h2,if_neg h3,if_neg h4,if_neg h5,if_pos h6,if_pos hh]) h
  unfold ZE
  rw [if_neg h1,if_neg h2,if_neg h3,if_neg h4,if_neg h5,if_pos h6,if_neg hh]
 rw [if_neg h6]
 by_cases h7:x.1=7
 ·by_cases hh:m.2.2.2.getD (k*2+x.2.1.toNat) 0=0
  ·exact absurd (by unfold ZE;rw [if_neg h1,if_neg h2,if_neg h3,if_neg h4,if_neg h5,if_neg h6,if_pos h7,if_pos hh]) h
  exact absurd (by unfold ZE;rw [if_neg h1,if_neg h2,if_neg h3,if_neg h4,if_neg h5,if_neg h6,if_pos h7,if_neg hh]) h
 by_cases hh:m.2.2.2.getD (k*2+x.2.1.toNat) 0=x.2.2
 ·exact absurd (by unfold ZE;rw [if_neg h1,if_neg h2,if_neg h3,if_neg h4,if_neg h5,if_neg h6,if_neg h7,if_pos hh]) h
 unfold ZE
 rw [if_neg h1,if_neg h2,if_neg h3,if_neg h4,if_neg h5,if_neg h6,if_neg h7,if_neg hh]
def Ff (rows:List (List I3)) (x:I3):Prop:=x=(14,0,0)∨∃ k p:Nat,k<3∧p<6∧x=((if ((Xn rows k).getD p (0,0,0)).1=6 then 13 else 12),(k:Int),(p:Int))
theorem LU {rows:List (List I3)} {m:V4} {k:Int} (hp:Zq rows=true) (hs:Ze m=true) (hz:VT rows m k=0) {x:I3} (hx:x ∈ XX rows m k):Ff rows x:=by
 obtain ⟨h0,h2,hd,_⟩:=WL hz
 obtain ⟨q,rfl⟩:∃ q:Nat,k=q:=⟨k.toNat,by omega⟩
 rw [Int.toNat_natCast] at hd
 obtain ⟨p,e1,e2,e3,_⟩:=VO hp hs (show q<3 by omega) hd
 have hl:=(WC hp (show q<3 by omega)).1
 unfold XX at hx
 rw [Int.toNat_natCast] at hx
 by_cases h9:(goM rows m (q:Int)).2=0
 ·rw [if_pos h9] at hx
  cases hx
 rw [if_neg h9] at hx
 have hx2:=List.mem_singleton.1 hx
 refine .inr ⟨q,p,by omega,by omega,?_⟩
 rw [hx2,e1]
 unfold goM at h9 ⊢
 rw [Int.toNat_natCast] at h9 ⊢
 rw [Ju h9,e3]
theorem Rj {rows:List (List I3)} {m:V4} {x:I3} (hx:x ∈ Zw rows m):Ff rows x:=by
 unfold Zw at hx
 split at hx
 ·exact .inl (List.mem_singleton.1 hx)
 cases hx
theorem UJ {rows:List (List I3)} {x:I3} (hx:Ff rows x):okB x=true:=by
 rcases hx with rfl | ⟨k,p,hk,hp,rfl⟩
 ·rfl
 unfold okB inB
 split<;>simp<;>omega


theorem Jf {xs:List I3} (h:Ws xs=true):∀ x ∈ xs,okB x=true:=by
 intro x hx
 obtain ⟨t,ht,rfl⟩:=List.getElem_of_mem hx
 have:=Vt h ht
 simp only [T7,Bool.and_eq_true] at this
 simpa [List.getD,List.getElem?_eq_getElem ht] using this.1
theorem VR {e:E3} (h:Wi e=true):Y1 e.1=true∧Ws e.2.1=true∧Vr e.2.2=true∧e.2.1.length≤30:=by
 simp only [Wi,Bool.and_eq_true,decide_eq_true_eq] at h
 exact h


def Yg (e:E3):Prop:=YN e.2.1∧(∀ x ∈ e.2.1,okB x=true)∧e.2.2.Pairwise (· < ·)∧∀ y ∈ e.2.2,Xq y=true
theorem XV:Yg e3d:=⟨List.Pairwise.nil,by simp [e3d],List.Pairwise.nil,by simp [e3d]⟩
def nmB (x:I3):Int:=if x.1=14 then 0 else (x.1 - 12)*18+(x.2.1*6+x.2.2+1)
theorem Fr {x:I3} (h:okB x=true):0≤nmB x∧nmB x≤36:=by
 unfold okB inB at h
 unfold nmB
 split at h
 ·rename_i h1;rw [if_pos h1];omega
 rename_i h1
 rw [if_neg h1]
 split at h
 ·simp at h;omega
 cases h
theorem GH {x y:I3} (h:okB x=true) (h':okB y=true) (e:nmB x=nmB y):x=y:=by
 obtain ⟨a,b,c⟩:=x
 obtain ⟨a',b',c'⟩:=y
 unfold okB inB at h h'
 unfold nmB at e
 simp only at h h' e
 by_cases h1:a=14<;>by_cases h2:a'=14
 ·rw [if_pos h1] at h;rw [if_pos h2] at h'
  simp at h h'
  obtain ⟨rfl,rfl⟩:=h
  obtain ⟨rfl,rfl⟩:=h'
  rw [h1,h2]
 ·rw [if_pos h1] at h e;rw [if_neg h2] at h' e
  split at h'
  ·simp at h';exfalso;omega
  cases h'
 ·rw [if_neg h1] at h e;rw [if_pos h2] at h' e
  split at h
  ·simp at h;exfalso;omega
  cases h
 rw [if_neg h1] at h e;rw [if_neg h2] at h' e
 split at h
 ·split at h'
  ·simp at h h'
   have e1:a=a':=by omega
   have e2:b=b':=by omega
   have e3:c=c':=by omega
   rw [e1,e2,e3]
  cases h'
 cases h
theorem RK {f:I3→Int}:∀ {xs:List I3},xs.Nodup→(∀ x ∈ xs,∀ y ∈ xs,f x=f y→x=y)→(xs.map f).Nodup
 | [],_,_=>List.nodup_nil
 | x::xs,hn,hc=>by
  obtain ⟨h1,h2⟩:=List.nodup_cons.1 hn
  rw [List.map_cons,List.nodup_cons]
  refine ⟨fun hm=>?_,RK h2 (fun y hy z hz=>hc y (List.mem_cons_of_mem _ hy) z (List.mem_cons_of_mem _ hz))⟩
  obtain ⟨y,hy,e⟩:=List.mem_map.1 hm
  have:=hc x (List.mem_cons_self ..) y (List.mem_cons_of_mem _ hy) e.symm
  subst this
  exact h1 hy
theorem YN.nodup11 {xs:List I3} (h:YN xs):xs.Nodup:=h.imp (fun h e=>by subst e;rw [Vz] at h;cases h)
theorem Yg.bugs {e:E3} (h:Yg e):e.2.1.length≤37:=by
 have h1:=K5 (RK h.1.nodup11 (f:=nmB) (fun x hx y hy=>GH (h.2.1 x hx) (h.2.1 y hy))) (a:=0) (b:=36) (fun y hy=>by
  obtain ⟨x,hx,rfl⟩:=List.mem_map.1 hy
  exact Fr (h.2.1 x hx))
 rw [List.length_map] at h1
 omega
theorem Yg.foot {e:E3} (h:Yg e):e.2.2.length≤23:=by
 have h1:=RY e.2.2 0 22 h.2.2.1 (fun x hx=>by
  have:=h.2.2.2 x hx
  unfold Xq at this
  simp only [decide_eq_true_eq] at this
  omega)
 omega
theorem Yg.merge {e f:E3} (h:Yg e) (h':Yg f) (k:ByteArray):Yg (k,ZG e.2.1 f.2.1,YK (e.2.2++f.2.2)):=
 ⟨Xk _ _,fun x hx=>by
  rcases Xc.1 hx with h9 | h9
  ·exact h.2.1 x h9
  ·exact h'.2.1 x h9,Xv _,fun y hy=>by
  rcases List.mem_append.1 ((WP _ y).1 hy) with h9 | h9
  ·exact h.2.2.2 y h9
  exact h'.2.2.2 y h9⟩
theorem Rm {rows:List (List I3)} (hp:Zq rows=true) {m:V4} (hs:Ze m=true) (k:ByteArray):Yg (k,ZL rows m,Zx m):=⟨Td rows m,(GC hp hs).1,Sr hs,look_ok hs⟩
theorem Pi {xs:List I3} (h:Ws xs=true):∀ {j i:Nat},i<j→j<xs.length→ltB (xs.getD i (0,0,0)) (xs.getD j (0,0,0))=true
 | 0,i,hi,_=>by omega
 | j+1,i,hi,hj=>by
  have hn:=Vt h hj
  simp only [T7,Bool.and_eq_true,Bool.or_eq_true,decide_eq_true_eq] at hn
  have hn2:ltB (xs.getD j (0,0,0)) (xs.getD (j+1) (0,0,0))=true:=by
   rcases hn.2 with h0 | h1
   ·omega
   simpa using h1
  by_cases e:i=j
  ·rw [e];exact hn2
  exact Vm (Pi h (j:=j) (i:=i) (by omega) (by omega)) hn2
theorem Pj {xs:List Int} (h:Vr xs=true):∀ {j i:Nat},i<j→j<xs.length→xs.getD i 0<xs.getD j 0
 | 0,i,hi,_=>by omega
 | j+1,i,hi,hj=>by
  have hn:=Vt h hj
  simp only [UX,Bool.and_eq_true,Bool.or_eq_true,decide_eq_true_eq] at hn
  have hn2:xs.getD j 0<xs.getD (j+1) 0:=by
   rcases hn.2 with h0 | h1
   ·omega
   simpa using h1
  by_cases e:i=j
  ·rw [e];exact hn2
  exact Int.lt_trans (Pj h (j:=j) (i:=i) (by omega) (by omega)) hn2
theorem Ht {xs:List I3} (h:Ws xs=true):YN xs:=by
 refine List.pairwise_iff_getElem.2 (fun i j hi hj hij=>?_)
 have:=Pi h hij hj
 simpa [List.getD,List.getElem?_eq_getElem hi,List.getElem?_eq_getElem hj] using this
theorem Hu {xs:List Int} (h:Vr xs=true):xs.Pairwise (· < ·):=by
 refine List.pairwise_iff_getElem.2 (fun i j hi hj hij=>?_)
 have:=Pj h hij hj
 simpa [List.getD,List.getElem?_eq_getElem hi,List.getElem?_eq_getElem hj] using this
theorem Jg {xs:List Int} (h:Vr xs=true):∀ x ∈ xs,Xq x=true:=by
 intro x hx
 obtain ⟨t,ht,rfl⟩:=List.getElem_of_mem hx
 have:=(N9 h t ht).2
 simpa [List.getD,List.getElem?_eq_getElem ht] using this
theorem UP {e:E3} (h:Wi e=true):Yg e:=by
 obtain ⟨_,h2,h3,_⟩:=VR h
 refine ⟨?_,Jf h2,?_,?_⟩
 ·exact Ht h2
 ·exact Hu h3
 exact Jg h3
theorem Mx {rows:List (List I3)} {rec:V4→ZB→E3 × ZB × Bool}:∀ (ts:List (Int × V4)) (e:E3) (st:ZB),(∀ t ∈ ts,∀ st:ZB,(∀ x ∈ st.1,Yg x)→Yg (rec t.2 st).1∧∀ x ∈ (rec t.2 st).2.1.1,Yg x)→(∀ x ∈ st.1,Yg x)→Yg e→Yg (Y2 rec ts e st).1∧∀ x ∈ (Y2 rec ts e st).2.1.1,Yg x
 | [],e,st,hr,ht,he=>⟨he,ht⟩
 | t::ts,e,st,hr,ht,he=>by
  obtain ⟨h1,h2⟩:=hr t (List.mem_cons_self ..) st ht
  unfold Y2
  split
  ·exact Mx (rows:=rows) ts _ _ (fun t' ht'=>hr t' (List.mem_cons_of_mem _ ht')) h2 (he.merge h1 _)
  exact ⟨XV,h2⟩
theorem S7 {rows:List (List I3)} (hp:Zq rows=true):∀ (f:Nat) (m:V4) (st:ZB),Ze m=true→(∀ x ∈ st.1,Yg x)→Yg (Ya rows f m st).1∧∀ x ∈ (Ya rows f m st).2.1.1,Yg x
 | 0,m,st,hs,ht=>by unfold Ya;exact ⟨XV,ht⟩
 | f+1,m,st,hs,ht=>by
  obtain ⟨k1,k2⟩:=Mx (rows:=rows) (rec:=Ya rows f) (nxM rows m) (ZC m,ZL rows m,Zx m) (st.1,st.2+1) (fun t htm st' ht'=>S7 hp f t.2 st' (Su hp hs t htm).1 ht') ht (Rm hp hs _)
  unfold Ya
  by_cases h1:isE st.1 (ZC m)=true
  ·rw [if_pos h1]
   refine ⟨?_,ht⟩
   have hi:=h1
   simp only [isE,Bool.and_eq_true,decide_eq_true_eq] at hi
   show Yg (Vc st.1 (ZC m))
   unfold Vc
   rw [if_pos h1,Y5 hi.1]
   exact ht _ (List.getElem_mem _)
  rw [if_neg h1]
  by_cases h2:st.1.length=2000
  ·rw [if_pos h2]
   exact ⟨XV,ht⟩
  rw [if_neg h2]
  generalize Y2 (Ya rows f) (nxM rows m) (ZC m,ZL rows m,Zx m) (st.1,st.2+1)=R at *
  by_cases h3:R.2.2=true
  ·rw [if_pos h3]
   by_cases h4:R.2.1.1.length=2000
   ·rw [if_pos h4]
    exact ⟨XV,k2⟩
   rw [if_neg h4]
   refine ⟨k1,fun x hx=>?_⟩
   rcases T2 hx with h9 | h9
   ·rw [h9];exact k1
   exact k2 x h9
  rw [if_neg h3]
  exact ⟨XV,k2⟩


def Pq (n:Nat) (a:List I3 × List Int):Prop:=(∀ x ∈ a.1,okB x=true)∧(∀ y ∈ a.2,Xq y=true)∧a.1.length≤1+n*39∧a.2.length≤3+n*23
theorem VQ (rows:List (List I3)) (m:V4):(Zw rows m).length≤1:=by
 unfold Zw
 split<;>simp
theorem RP (rows:List (List I3)) (m:V4) (k:Int):(XX rows m k).length≤1:=by
 unfold XX
 split<;>simp
theorem Ra {rows:List (List I3)} {m:V4} (hs:Ze m=true):Pq 0 (Zw rows m,Zx m):=⟨fun x hx=>UJ (Rj (rows:=rows) hx),look_ok hs,VQ rows m,by simp [Zx]⟩
theorem Pq.step {rows:List (List I3)} {n:Nat} {a:List I3 × List Int} (h:Pq n a) (hp:Zq rows=true) {m:V4} (hs:Ze m=true) {t:Int × V4} (ht:t ∈ nxM rows m) {e:E3} (he:Yg e):Pq (n+1) (((a.1++XX rows m t.1)++Zw rows t.2)++e.2.1,a.2++e.2.2):=by
 obtain ⟨h1,h2,h3,h4⟩:=h
 have hk:t.1 ∈ Zt rows m 3:=by
  unfold nxM at ht
  obtain ⟨k,hk,rfl⟩:=List.mem_map.1 ht
  exact hk
 refine ⟨fun x hx=>?_,fun y hy=>?_,?_,?_⟩
 ·simp only [List.mem_append] at hx
  rcases hx with ((hx | hx) | hx) | hx
  ·exact h1 x hx
  ·exact UJ (LU hp hs (WD hk) hx)
  ·exact UJ (Rj (rows:=rows) hx)
  exact he.2.1 x hx
 ·rcases List.mem_append.1 hy with hy | hy
  ·exact h2 y hy
  exact he.2.2.2 y hy
 ·have:=he.bugs
  have:=RP rows m t.1
  have:=VQ rows t.2
  simp only [List.length_append]
  omega
 have:=he.foot
 simp only [List.length_append]
 omega
theorem Pq.ent {n:Nat} {a:List I3 × List Int} (h:Pq n a) (m:V4) (st:ZB):Yg (Vl m (a,st)):=by
 refine ⟨Xk _ _,fun x hx=>?_,Xv _,fun y hy=>h.2.1 y ((WP _ y).1 hy)⟩
 rcases Xc.1 hx with h9 | h9
 ·exact h.1 x h9
 cases h9
theorem Pp {rows:List (List I3)} {m:V4} {rec:V4→ZB→E3 × ZB} (t:Int × V4):∀ (ts:List (Int × V4)) (acc:List I3 × List Int) (st:ZB),
  XE rows m rec (ts++[t]) acc st=(((((XE rows m rec ts acc st).1.1++XX rows m t.1)++Zw rows t.2)++(rec t.2 (XE rows m rec ts acc st).2).1.2.1,(XE rows m rec ts acc st).1.2++(rec t.2 (XE rows m rec ts acc st).2).1.2.2),(rec t.2 (XE rows m rec ts acc st).2).2)
 | [],acc,st=>rfl
 | s::ts,acc,st=>by
  show XE rows m rec (ts++[t]) _ _=_
  rw [Pp t ts]
  rfl
theorem Qh {rows:List (List I3)} (hp:Zq rows=true) {m:V4} (hs:Ze m=true) {rec:V4→ZB→E3 × ZB}:∀ (ts:List (Int × V4)) (n:Nat) (acc:List I3 × List Int) (st:ZB),(∀ t ∈ ts,t ∈ nxM rows m)→(∀ t ∈ ts,∀ st:ZB,(∀ x ∈ st.1,Yg x)→Yg (rec t.2 st).1∧∀ x ∈ (rec t.2 st).2.1,Yg x)→Pq n acc→(∀ x ∈ st.1,Yg x) →
  Pq (n+ts.length) (XE rows m rec ts acc st).1∧∀ x ∈ (XE rows m rec ts acc st).2.1,Yg x
 | [],n,acc,st,hn,hr,ha,ht=>⟨ha,ht⟩
 | t::ts,n,acc,st,hn,hr,ha,ht=>by
  obtain ⟨h1,h2⟩:=hr t (List.mem_cons_self ..) st ht
  have h3:=Qh hp hs ts (n+1) _ (rec t.2 st).2 (fun s h=>hn s (List.mem_cons_of_mem _ h)) (fun s h=>hr s (List.mem_cons_of_mem _ h)) (ha.step hp hs (hn t (List.mem_cons_self ..)) h1) h2
  rw [List.length_cons,show n+(ts.length+1)=n+1+ts.length by omega]
  exact h3
theorem Vs {rows:List (List I3)} (hp:Zq rows=true) {g:Nat}:∀ (f:Nat) (m:V4) (st:ZB),Ze m=true→(∀ x ∈ st.1,Yg x)→Yg (Yd rows g f m st).1∧∀ x ∈ (Yd rows g f m st).2.1,Yg x
 | 0,m,st,hs,ht=>⟨XV,ht⟩
 | f+1,m,st,hs,ht=>by
  unfold Yd
  by_cases h1:isE st.1 (ZC m)=true
  ·rw [if_pos h1]
   refine ⟨?_,ht⟩
   have hi:=h1
   simp only [isE,Bool.and_eq_true,decide_eq_true_eq] at hi
   show Yg (Vc st.1 (ZC m))
   unfold Vc
   rw [if_pos h1,Y5 hi.1]
   exact ht _ (List.getElem_mem _)
  rw [if_neg h1]
  by_cases h2:2000<g+(st.2+1)
  ·rw [if_pos h2]
   exact ⟨XV,ht⟩
  rw [if_neg h2]
  obtain ⟨k1,k2⟩:=Qh hp hs (rec:=Yd rows g f) (nxM rows m) 0 (Zw rows m,Zx m) (st.1,st.2+1) (fun t h=>h) (fun t htm st' ht'=>Vs hp f t.2 st' (Su hp hs t htm).1 ht') (Ra hs) ht
  have k3:=k1.ent m (XE rows m (Yd rows g f) (nxM rows m) (Zw rows m,Zx m) (st.1,st.2+1)).2
  refine ⟨k3,fun x hx=>?_⟩
  rcases T2 hx with h9 | h9
  ·rw [h9];exact k3
  exact k2 x h9
def ZO (rows:List (List I3)) (g f:Nat) (m:V4) (st:ZB) (i:Nat):(List I3 × List Int) × ZB:=XE rows m (Yd rows g f) ((nxM rows m).take i) (Zw rows m,Zx m) st
theorem Lq (rows:List (List I3)) (g f:Nat) (m:V4) (st:ZB):ZO rows g f m st 0=((Zw rows m,Zx m),st):=rfl
theorem Lp {rows:List (List I3)} {g f:Nat} {m:V4} {st:ZB} {i:Nat} {k:Int} (h:(Zt rows m 3)[i]?=some k):ZO rows g f m st (i+1)=(((((ZO rows g f m st i).1.1++XX rows m k)++Zw rows (goM rows m k).1)++(Yd rows g f (goM rows m k).1 (ZO rows g f m st i).2).1.2.1,(ZO rows g f m st i).1.2++(Yd rows g f (goM rows m k).1 (ZO rows g f m st i).2).1.2.2),(Yd rows g f (goM rows m k).1 (ZO rows g f m st i).2).2):=by
 unfold ZO
 have h9:(nxM rows m)[i]?=some (k,(goM rows m k).1):=by unfold nxM;rw [List.getElem?_map,h];rfl
 rw [List.take_add_one,h9]
 exact Pp (k,(goM rows m k).1) _ _ _
theorem T5 {rows:List (List I3)} {g f:Nat} {m:V4} {st:ZB} {i:Nat} (h:(Zt rows m 3).length≤i):ZO rows g f m st i=XE rows m (Yd rows g f) (nxM rows m) (Zw rows m,Zx m) st:=by
 unfold ZO
 rw [List.take_of_length_le (by unfold nxM;rw [List.length_map];exact h)]
theorem JC {rows:List (List I3)} (hp:Zq rows=true) {m:V4} (hs:Ze m=true) {g f:Nat} {st:ZB} (ht:∀ x ∈ st.1,Yg x) (i:Nat):Pq 3 (ZO rows g f m st i).1∧∀ x ∈ (ZO rows g f m st i).2.1,Yg x:=by
 obtain ⟨h1,h2⟩:=Qh hp hs (rec:=Yd rows g f) ((nxM rows m).take i) 0 (Zw rows m,Zx m) st (fun t h=>List.mem_of_mem_take h) (fun t htm st' ht'=>Vs hp f t.2 st' (Su hp hs t (List.mem_of_mem_take htm)).1 ht') (Ra hs) ht
 have hl:=LQ rows m
 have hl2:((nxM rows m).take i).length≤3:=by rw [List.length_take];omega
 exact ⟨⟨h1.1,h1.2.1,by have:=h1.2.2.1;unfold ZO;omega,by have:=h1.2.2.2;unfold ZO;omega⟩,h2⟩
theorem Pm {rows:List (List I3)} {g f:Nat} {m:V4} {st:ZB} (i:Nat) (hi:i≤3):(ZO rows g f m st i).2.2≤st.2+i*VM f:=by
 have h:=Qi (rows:=rows) (m:=m) (B:=VM f) (fun x st=>Qg (rows:=rows) (g:=g) f x st) ((nxM rows m).take i) (Zw rows m,Zx m) st
 have h2:=Nat.mul_le_mul_right (VM f) (show ((nxM rows m).take i).length≤i by rw [List.length_take];omega)
 unfold ZO
 omega
theorem JB {rows:List (List I3)} {g f:Nat} {m:V4} {st:ZB} (i:Nat):st.2≤(ZO rows g f m st i).2.2:=TF (fun x st=>Qe (rows:=rows) (g:=g) f x st) _ _ _


def SlB (s:Sl) (j:Nat):Prop:=s.2.1≠0∧∃ o,s.1=some ⟨j,o,none⟩
def EnB (s:Sl2) (j:Nat):Prop:=SlB s.1 j∨SlB s.2 j
theorem Vw (w:World) (b i:Nat) (v:Value):w.grownBy (w.setCell ⟨b,i,none⟩ v) (some b):=⟨rfl,rfl,rfl,by simp [World.setCell],fun k _ hk=>Below.heap_setCell w _ v k (fun e=>hk (by rw [e]))⟩
theorem Wt {w:World} {B:Nat} {v:Value} {xs:List I3} (h:w.ownsRow B 90 3 v xs.length (Zk xs)) (hf:∀ x ∈ xs,I3.fits x):∃ a cap,v=.slice a xs.length cap∧Zj w a xs.length cap xs∧WU a cap∧∀ j,SlB (a,xs.length,cap) j→v.ownBlock=some j:=by
 rcases h.2 with ⟨rfl,h0⟩ | ⟨g,cap,cur,hv,_⟩
 ·exact ⟨none,0,by rw [h0],⟨rfl,by omega,Nat.zero_le _,hf,.inl h0⟩,⟨fun _=>rfl,fun x hx=>by cases hx⟩,fun j hj=>absurd h0 hj.1⟩
 subst hv
 exact ⟨_,_,rfl,Zj.of_owns h rfl hf rfl,⟨fun h=>(by cases h),fun x hx=>by cases hx;rfl⟩,fun j hj=>by obtain ⟨_,o,e⟩:=hj;cases e;rfl⟩
theorem U8 {w:World} {B:Nat} {v:Value} {xs:List Int} (h:w.ownsRow B 3 1 v xs.length (xs.map (Value.int .i64))):∃ a cap,v=.slice a xs.length cap∧ZW .i64 w a xs.length cap xs∧WU a cap∧∀ j,SlB (a,xs.length,cap) j→v.ownBlock=some j:=by
 rcases h.2 with ⟨rfl,h0⟩ | ⟨g,cap,cur,hv,_⟩
 ·exact ⟨none,0,by rw [h0],⟨rfl,by omega,Nat.zero_le _,.inl h0⟩,⟨fun _=>rfl,fun x hx=>by cases hx⟩,fun j hj=>absurd h0 hj.1⟩
 subst hv
 exact ⟨_,_,rfl,QW h,⟨fun h=>(by cases h),fun x hx=>by cases hx;rfl⟩,fun j hj=>by obtain ⟨_,o,e⟩:=hj;cases e;rfl⟩
theorem ZW.same11 {k:IntKind} {w w':World} {a:Option Addr} {n c:Nat} {zs:List Int} (h:ZW k w a n c zs) (hz:w.heap.size≤w'.heap.size) (hb:∀ j,SlB (a,n,c) j→w'.heap[j]?=w.heap[j]?):ZW k w' a n c zs:=by
 obtain ⟨h1,h2,h3,h4⟩:=h
 refine ⟨h1,h2,h3,?_⟩
 rcases h4 with h4 | ⟨b,off,rfl,hlt,hc⟩
 ·exact .inl h4
 by_cases hn:n=0
 ·exact .inl hn
 exact .inr ⟨b,off,rfl,by omega,fun t ht=>by rw [World.cell?_of_block (w:=w) (a:=⟨b,off+t,none⟩) (hb b ⟨hn,off,rfl⟩)];exact hc t ht⟩
theorem Zj.same11 {w w':World} {a:Option Addr} {n c:Nat} {xs:List I3} (h:Zj w a n c xs) (hz:w.heap.size≤w'.heap.size) (hb:∀ j,SlB (a,n,c) j→w'.heap[j]?=w.heap[j]?):Zj w' a n c xs:=by
 obtain ⟨h1,h2,h3,hf,h4⟩:=h
 refine ⟨h1,h2,h3,hf,?_⟩
 rcases h4 with h4 | ⟨b,off,rfl,hlt,hc⟩
 ·exact .inl h4
 by_cases hn:n=0
 ·exact .inl hn
 refine .inr ⟨b,off,rfl,by omega,fun t ht=>?_⟩
 have e:=hb b ⟨hn,off,rfl⟩
 rw [World.cell?_of_block (w:=w) (a:=⟨b,off+t*3,none⟩) e,World.cell?_of_block (w:=w) (a:=⟨b,off+t*3+1,none⟩) e,World.cell?_of_block (w:=w) (a:=⟨b,off+t*3+2,none⟩) e]
 exact hc t ht
theorem YL.same11 {w w':World} {s:Sl2} {e:E3} (h:YL w s e) (hz:w.heap.size≤w'.heap.size) (hb:∀ j,EnB s j→w'.heap[j]?=w.heap[j]?):YL w' s e:=
 ⟨h.1,h.2.1.same11 hz (fun j hj=>hb j (.inl hj)),h.2.2.1.same11 hz (fun j hj=>hb j (.inr hj)),h.2.2.2⟩
theorem ZW.blk11 {k:IntKind} {w:World} {a:Option Addr} {n c:Nat} {zs:List Int} (h:ZW k w a n c zs) {j:Nat} (hj:SlB (a,n,c) j):j<w.heap.size∧∀ es clock,w.heap[j]?≠some (.map es clock):=by
 obtain ⟨h1,h2,h3,h4⟩:=h
 obtain ⟨hn,o,e⟩:=hj
 rcases h4 with h4 | ⟨b,off,rfl,hlt,hc⟩
 ·exact absurd h4 hn
 cases e
 refine ⟨hlt,fun es clock e9=>?_⟩
 have h9:=hc 0 (Nat.pos_of_ne_zero hn)
 simp only [World.cell?] at h9
 rw [e9] at h9
 simp at h9
theorem Zj.blk11 {w:World} {a:Option Addr} {n c:Nat} {xs:List I3} (h:Zj w a n c xs) {j:Nat} (hj:SlB (a,n,c) j):j<w.heap.size∧∀ es clock,w.heap[j]?≠some (.map es clock):=by
 obtain ⟨h1,h2,h3,hf,h4⟩:=h
 obtain ⟨hn,o,e⟩:=hj
 rcases h4 with h4 | ⟨b,off,rfl,hlt,hc⟩
 ·exact absurd h4 hn
 cases e
 refine ⟨hlt,fun es clock e9=>?_⟩
 have h9:=(hc 0 (Nat.pos_of_ne_zero hn)).1
 simp only [World.cell?] at h9
 rw [e9] at h9
 simp at h9
theorem YL.blk11 {w:World} {s:Sl2} {e:E3} (h:YL w s e) {j:Nat} (hj:EnB s j):j<w.heap.size∧∀ es clock,w.heap[j]?≠some (.map es clock):=by
 rcases hj with hj | hj
 ·exact h.2.1.blk11 hj
 exact h.2.2.1.blk11 hj
theorem ZW.int11 {w:World} {a:Option Addr} {n c:Nat} {zs:List Int} (h:ZW .i64 w a n c zs) {j:Nat} (hj:SlB (a,n,c) j):∃ o v,w.cell? ⟨j,o,none⟩=some (.int .i64 v):=by
 obtain ⟨h1,h2,h3,h4⟩:=h
 obtain ⟨hn,o,e⟩:=hj
 rcases h4 with h4 | ⟨b,off,rfl,hlt,hc⟩
 ·exact absurd h4 hn
 cases e
 exact ⟨_,_,hc 0 (Nat.pos_of_ne_zero hn)⟩
theorem Zj.int11 {w:World} {a:Option Addr} {n c:Nat} {xs:List I3} (h:Zj w a n c xs) {j:Nat} (hj:SlB (a,n,c) j):∃ o v,w.cell? ⟨j,o,none⟩=some (.int .i64 v):=by
 obtain ⟨h1,h2,h3,hf,h4⟩:=h
 obtain ⟨hn,o,e⟩:=hj
 rcases h4 with h4 | ⟨b,off,rfl,hlt,hc⟩
 ·exact absurd h4 hn
 cases e
 exact ⟨_,_,(hc 0 (Nat.pos_of_ne_zero hn)).1⟩
theorem YL.off11 {w:World} {s:Sl2} {e:E3} (h:YL w s e) {j:Nat} (hj:EnB s j) {X T:Nat} {cs:List Value} (hB:Blk w X T cs) (hn:T6 cs):j≠X:=by
 rcases hj with hj | hj
 ·obtain ⟨o,v,h9⟩:=h.2.1.int11 hj
  exact WB hB hn h9
 obtain ⟨o,v,h9⟩:=h.2.2.1.int11 hj
 exact WB hB hn h9
structure Wc (w w':World) (C nb:Nat):Prop where
 os:w'.os=w.os
 tape:w'.tape=w.tape
 output:w'.output=w.output
 size:w.heap.size≤w'.heap.size
 block:∀ j,j<w.heap.size→j≠C→j≠nb→w'.heap[j]?=w.heap[j]?
theorem Wc.refl (w:World) (C nb:Nat):Wc w w C nb:=⟨rfl,rfl,rfl,Nat.le_refl _,fun _ _ _ _=>rfl⟩
theorem Wc.trans {a b c:World} {C nb:Nat} (h:Wc a b C nb) (k:Wc b c C nb):Wc a c C nb:=
 ⟨k.os.trans h.os,k.tape.trans h.tape,k.output.trans h.output,Nat.le_trans h.size k.size,fun j hj h1 h2=>(k.block j (Nat.lt_of_lt_of_le hj h.size) h1 h2).trans (h.block j hj h1 h2)⟩
theorem Wc.of {a b:World} {C nb:Nat} (k:Below a.heap.size a b):Wc a b C nb:=⟨k.os,k.tape,k.output,k.size,fun j hj _ _=>k.block j hj⟩
theorem Wc.bel {a b c:World} {C nb:Nat} (h:Wc a b C nb) (k:Below b.heap.size b c):Wc a c C nb:=h.trans (Wc.of k)
theorem Wc.gr {a b c:World} {C nb:Nat} {r:Option Nat} (h:Wc a b C nb) (k:b.grownBy c r) (hr:∀ j,r=some j→j=C∨j=nb∨a.heap.size≤j):Wc a c C nb:=
 ⟨k.os.trans h.os,k.tape.trans h.tape,k.output.trans h.output,Nat.le_trans h.size k.size,fun j hj h1 h2=>(k.block j (Nat.lt_of_lt_of_le hj h.size) (fun e=>by
  rcases hr j e.symm with h9 | h9 | h9
  ·exact h1 h9
  ·exact h2 h9
  omega)).trans (h.block j hj h1 h2)⟩
theorem Wc.blk {w w':World} {C nb g t:Nat} {cs:List Value} (k:Wc w w' C nb) (p:Blk w g t cs) (hC:g≠C) (hn:g≠nb):Blk w' g t cs:=(k.block g p.lt hC hn).trans p
theorem Wc.row {w w':World} {C nb B e s n:Nat} {v:Value} {xs:List Value} (k:Wc w w' C nb) (ho:w.ownsRow B e s v n xs) (hC:v.ownBlock≠some C) (hn:v.ownBlock≠some nb):w'.ownsRow B e s v n xs:=by
 have hlt:=fun g hg=>(Yf ho (g:=g) hg).2
 refine ⟨ho.1,?_⟩
 rcases ho.2 with hn9 | ⟨g,cap,cur,rfl,hb9,hgg,rest⟩
 ·exact .inl hn9
 exact .inr ⟨g,cap,cur,rfl,hb9,(k.block g (hlt g rfl) (fun e=>hC (by rw [← e];rfl)) (fun e=>hn (by rw [← e];rfl))).trans hgg,rest⟩
def Lv (C:Nat) (s:Sl2):Prop:=WU s.1.1 s.1.2.2∧∀ j,EnB s j→j≠C
structure OnC (w0 w:World) (C nb g n:Nat) (L:List EQ) (nd:Nat):Prop where
 base:Below w0.heap.size w0 w
 box:Blk w C 106 [.map (some nb),.int .i64 (g:Int),.int .i64 (nd:Int)]
 map:∃ D:DataW Value,w.ownsMap Tryz.prog 9 Vq nb n D∧Un D L
 ents:∀ x ∈ L,YL w x.2 x.1∧Lv C x.2
 hC:w0.heap.size≤C
 hn:w0.heap.size≤nb
theorem K1 {w:World} {nb n:Nat} {D:DataW Value} (h:w.ownsMap Tryz.prog 9 Vq nb n D):∃ es clock,w.heap[nb]?=some (.map es clock):=by
 obtain ⟨es,clock,hb,_⟩:=h
 exact ⟨es,clock,hb⟩
theorem OnC.any {w0 w:World} {C nb g n nd:Nat} {L:List EQ} (h:OnC w0 w C nb g n L nd):∃ es clock,w.heap[nb]?=some (.map es clock):=by
 obtain ⟨D,hm,_⟩:=h.map
 exact K1 hm
theorem OnC.noblk {w0 w:World} {C nb g n nd:Nat} {L:List EQ} (h:OnC w0 w C nb g n L nd) {q t:Nat} {cs:List Value} (hB:Blk w q t cs):q≠nb:=fun e=>by
 obtain ⟨es,clock,hb⟩:=h.any
 subst e
 unfold Blk at hB
 rw [hB] at hb
 cases hb
theorem OnC.norow {w0 w:World} {C nb g n nd:Nat} {L:List EQ} (h:OnC w0 w C nb g n L nd) {B e s k:Nat} {v:Value} {xs:List Value} (ho:w.ownsRow B e s v k xs):v.ownBlock≠some nb:=fun e9=>by
 obtain ⟨es,clock,hb⟩:=h.any
 rcases ho.2 with ⟨rfl,_⟩ | ⟨g9,cap,cur,rfl,_,hgg,_⟩
 ·cases e9
 cases e9
 rw [hgg] at hb
 cases hb
theorem OnC.ne {w0 w:World} {C nb g n nd:Nat} {L:List EQ} (h:OnC w0 w C nb g n L nd):C≠nb:=h.noblk h.box
theorem OnC.below {w0 w w':World} {C nb g n nd:Nat} {L:List EQ} (h:OnC w0 w C nb g n L nd) (hb:Below w.heap.size w w'):OnC w0 w' C nb g n L nd:=by
 obtain ⟨D,hm,hG⟩:=h.map
 exact ⟨Zb h.base hb,h.box.below hb,⟨D,hm.kept (row:=none) ⟨hb.os,hb.tape,hb.output,hb.size,fun k hk _=>hb.block k hk⟩ (by simp),hG⟩,fun x hx=>⟨(h.ents x hx).1.below hb,(h.ents x hx).2⟩,h.hC,h.hn⟩
theorem OnC.grow {w0 w w':World} {C nb g n nd:Nat} {L:List EQ} (h:OnC w0 w C nb g n L nd) {r:Option Nat} (hg:w.grownBy w' r) (hC:r≠some C) (hn:r≠some nb) (h0:∀ j,r=some j→w0.heap.size≤j) (hE:∀ x ∈ L,∀ j,EnB x.2 j→r≠some j):OnC w0 w' C nb g n L nd:=by
 obtain ⟨D,hm,hG⟩:=h.map
 exact ⟨h.base.grown hg h.base.size h0,h.box.kept hg hC,⟨D,hm.kept hg (fun e=>hn e.symm),hG⟩,fun x hx=>⟨(h.ents x hx).1.same11 hg.size (fun j hj=>hg.block j ((h.ents x hx).1.blk11 hj).1 (fun e=>hE x hx j hj e.symm)),(h.ents x hx).2⟩,h.hC,h.hn⟩
theorem OnC.node {w0 w:World} {C nb g n nd:Nat} {L:List EQ} (h:OnC w0 w C nb g n L nd) (nd':Nat):OnC w0 (w.setCell ⟨C,2,none⟩ (.int .i64 (nd':Int))) C nb g n L nd':=by
 obtain ⟨D,hm,hG⟩:=h.map
 have hg:=Vw w C 2 (.int .i64 (nd':Int))
 refine ⟨h.base.grown hg h.base.size (fun j e=>by cases e;exact h.hC),?_,⟨D,hm.kept hg (fun e=>h.ne (by cases e;rfl)),hG⟩,fun x hx=>⟨(h.ents x hx).1.same11 hg.size (fun j hj=>hg.block j ((h.ents x hx).1.blk11 hj).1 (fun e=>(h.ents x hx).2.2 j hj (by cases e;rfl))),(h.ents x hx).2⟩,h.hC,h.hn⟩
 have:=h.box.set 2 (.int .i64 (nd':Int))
 simpa using this
theorem KI (w:World) (C nb:Nat) (v:Value):Wc w (w.setCell ⟨C,2,none⟩ v) C nb:=(Wc.refl w C nb).gr (Vw w C 2 v) (fun j e=>by cases e;exact .inl rfl)
theorem OnC.nbkeep {w0 w w':World} {C nb g n nd:Nat} {L:List EQ} (h:OnC w0 w C nb g n L nd) (hg:w.grownBy w' (some nb)) {s:Sl2} {e:E3} (hE:YL w s e):YL w' s e:=
 hE.same11 hg.size (fun j hj=>by
  obtain ⟨h1,h2⟩:=hE.blk11 hj
  obtain ⟨es,clock,hb⟩:=h.any
  exact hg.block j h1 (fun e9=>h2 es clock (by cases e9;exact hb)))
theorem OnC.put {w0 w w':World} {C nb g n nd:Nat} {L:List EQ} (h:OnC w0 w C nb g n L nd) {e:E3} {s:Sl2} (hE:YL w s e) (hO:Lv C s) {D:DataW Value} (hP:Fh w' nb (n+1) D (VL L e s)) (hg:w.grownBy w' (some nb)):OnC w0 w' C nb g (n+1) (VL L e s) nd:=by
 obtain ⟨D',hm,hG⟩:=hP
 refine ⟨h.base.grown hg h.base.size (fun j e9=>by cases e9;exact h.hn),h.box.kept hg (fun e9=>h.ne (by cases e9;rfl)),⟨D',hm,hG⟩,fun x hx=>?_,h.hC,h.hn⟩
 rcases Tx hx with h9 | h9
 ·exact ⟨h.nbkeep hg (h.ents x h9).1,(h.ents x h9).2⟩
 rw [h9]
 exact ⟨h.nbkeep hg hE,hO⟩
def MB (x:Ending) (w0 w w':World) (C nb g n:Nat) (L:List EQ) (nd:Nat) (R:E3 × ZB):Prop:=
 ∃ (s:Sl2) (L':List EQ) (n':Nat),x=.returned (ZU R.1.1 s)∧YL w' s R.1∧Lv C s∧(∀ j,EnB s j→w.heap.size≤j∨∃ x ∈ L,EnB x.2 j)∧OnC w0 w' C nb g n' L' R.2.2∧L'.map (·.1)=R.2.1∧n'+nd≤n+R.2.2∧(∀ x ∈ L',x ∈ L∨∀ j,EnB x.2 j→w.heap.size≤j)∧Wc w w' C nb

open Go.RowKit Go.Maps Go.Sort Go.Shelf

def Q0:Go.Shelf.Ren:=⟨fun | 7=>112 | 10=>170 | n=>n,fun | 23=>104 | 26=>9 | 3=>109 | 28=>189 | 0=>0 | 27=>188 | 33=>246 | 4=>4 | n=>n,fun | n=>n⟩
theorem G0:Go.Proofs.SlLaysZ.n7 Tryz.prog Q0:={
 mixed:=by kernel_rfl
 f7:=⟨Tryz.f112.name,by decide,Tryz.func112.trans (congrArg some (by kernel_rfl))⟩
 f10:=⟨Tryz.f170.name,by decide,Tryz.func170.trans (congrArg some (by kernel_rfl))⟩
 t0:=Tryz.underlying0
 a0:=Tryz.isAgg0
 z0:=Tryz.sizeOf0
 v0:=Tryz.zeroValue0
 t4:=Tryz.underlying4
 a4:=Tryz.isAgg4
 z4:=Tryz.sizeOf4
 v4:=Tryz.zeroValue4
 t23:=Tryz.underlying104
 a23:=Tryz.isAgg104
 z23:=Tryz.sizeOf104
 v23:=Tryz.zeroValue104
 t26:=Tryz.underlying9
 a26:=Tryz.isAgg9
 z26:=Tryz.sizeOf9
 v26:=Tryz.zeroValue9
 t27:=Tryz.underlying188
 a27:=Tryz.isAgg188
 z27:=Tryz.sizeOf188
 v27:=Tryz.zeroValue188
 t28:=Tryz.underlying189
 a28:=Tryz.isAgg189
 z28:=Tryz.sizeOf189
 v28:=Tryz.zeroValue189
 t33:=Tryz.underlying246
 a33:=Tryz.isAgg246
 z33:=Tryz.sizeOf246
 v33:=Tryz.zeroValue246 }
def SD:Go.Shelf.Ren:=⟨fun | 6=>111 | 8=>168 | 9=>169 | 11=>209 | 13=>140 | 12=>210 | 23=>192 | 24=>193 | 14=>226 | 15=>227 | 16=>228 | 17=>229 | 18=>230 | 19=>231 | 20=>232 | 21=>233 | 22=>234 | 25=>240 | 26=>214 | 27=>215 | 28=>241 | 29=>242 | 30=>243 | 31=>253 | n=>n,fun | 26=>9 | 28=>189 | 24=>144 | 0=>0 | 3=>3 | 37=>223 | 48=>268 | 50=>270 | 4=>4 | 40=>262 | 39=>261 | 45=>228 | 5=>5 | 9=>9 | 51=>287 | 55=>291 | 57=>308 | 58=>27 | 33=>246 | n=>n,fun | n=>n⟩
theorem GS:Go.Proofs.SlLaysZ.n6 Tryz.prog SD:={
 mixed:=by kernel_rfl
 f6:=⟨Tryz.f111.name,by decide,Tryz.func111.trans (congrArg some (by kernel_rfl))⟩
 f8:=⟨Tryz.f168.name,by decide,Tryz.func168.trans (congrArg some (by kernel_rfl))⟩
 f11:=⟨Tryz.f209.name,by decide,Tryz.func209.trans (congrArg some (by kernel_rfl))⟩
 t0:=Tryz.underlying0
 a0:=Tryz.isAgg0
 z0:=Tryz.sizeOf0
 v0:=Tryz.zeroValue0
 t24:=Tryz.underlying144
 a24:=Tryz.isAgg144
 z24:=Tryz.sizeOf144
 v24:=Tryz.zeroValue144
 t26:=Tryz.underlying9
 a26:=Tryz.isAgg9
 z26:=Tryz.sizeOf9
 v26:=Tryz.zeroValue9
 t28:=Tryz.underlying189
 a28:=Tryz.isAgg189
 z28:=Tryz.sizeOf189
 v28:=Tryz.zeroValue189
 i26:=by kernel_rfl }
def Jl:Go.Shelf.Ren:=⟨fun | 6=>169 | 8=>140 | 9=>210 | 19=>192 | 20=>193 | 21=>226 | 22=>227 | 23=>228 | 24=>229 | 25=>230 | 26=>231 | 27=>232 | 28=>233 | 29=>234 | 36=>240 | 31=>214 | 32=>215 | 37=>241 | 38=>242 | 39=>243 | 41=>253 | n=>n,fun | 27=>144 | 29=>9 | 3=>3 | 32=>223 | 26=>144 | 0=>0 | 44=>268 | 46=>270 | 4=>4 | 36=>262 | 35=>261 | 41=>228 | 5=>5 | 9=>9 | 53=>287 | 57=>291 | 63=>308 | 64=>27 | n=>n,fun | n=>n⟩
theorem Fb:Go.Proofs.SlLaysM.n6 Tryz.prog Jl:={
 mixed:=by kernel_rfl
 f6:=⟨Tryz.f169.name,by decide,Tryz.func169.trans (congrArg some (by kernel_rfl))⟩
 f8:=Tryz.func140.trans (congrArg some (by kernel_rfl))
 f9:=⟨Tryz.f210.name,by decide,Tryz.func210.trans (congrArg some (by kernel_rfl))⟩
 f19:=Tryz.func192.trans (congrArg some (by kernel_rfl))
 f20:=Tryz.func193.trans (congrArg some (by kernel_rfl))
 f21:=⟨Tryz.f226.name,by decide,Tryz.func226.trans (congrArg some (by kernel_rfl))⟩
 f22:=⟨Tryz.f227.name,by decide,Tryz.func227.trans (congrArg some (by kernel_rfl))⟩
 f23:=⟨Tryz.f228.name,by decide,Tryz.func228.trans (congrArg some (by kernel_rfl))⟩
 f24:=⟨Tryz.f229.name,by decide,Tryz.func229.trans (congrArg some (by kernel_rfl))⟩
 f25:=⟨Tryz.f230.name,by decide,Tryz.func230.trans (congrArg some (by kernel_rfl))⟩
 f26:=⟨Tryz.f231.name,by decide,Tryz.func231.trans (congrArg some (by kernel_rfl))⟩
 f27:=⟨Tryz.f232.name,by decide,Tryz.func232.trans (congrArg some (by kernel_rfl))⟩
 f28:=⟨Tryz.f233.name,by decide,Tryz.func233.trans (congrArg some (by kernel_rfl))⟩
 f29:=⟨Tryz.f234.name,by decide,Tryz.func234.trans (congrArg some (by kernel_rfl))⟩
 f31:=Tryz.func214.trans (congrArg some (by kernel_rfl))
 f32:=Tryz.func215.trans (congrArg some (by kernel_rfl))
 f36:=⟨Tryz.f240.name,by decide,Tryz.func240.trans (congrArg some (by kernel_rfl))⟩
 f37:=⟨Tryz.f241.name,by decide,Tryz.func241.trans (congrArg some (by kernel_rfl))⟩
 f38:=⟨Tryz.f242.name,by decide,Tryz.func242.trans (congrArg some (by kernel_rfl))⟩
 f39:=⟨Tryz.f243.name,by decide,Tryz.func243.trans (congrArg some (by kernel_rfl))⟩
 f41:=⟨Tryz.f253.name,by decide,Tryz.func253.trans (congrArg some (by kernel_rfl))⟩
 t0:=Tryz.underlying0
 a0:=Tryz.isAgg0
 z0:=Tryz.sizeOf0
 v0:=Tryz.zeroValue0
 t3:=Tryz.underlying3
 a3:=Tryz.isAgg3
 z3:=Tryz.sizeOf3
 v3:=Tryz.zeroValue3
 t4:=Tryz.underlying4
 a4:=Tryz.isAgg4
 z4:=Tryz.sizeOf4
 v4:=Tryz.zeroValue4
 t5:=Tryz.underlying5
 a5:=Tryz.isAgg5
 z5:=Tryz.sizeOf5
 v5:=Tryz.zeroValue5
 t9:=Tryz.underlying9
 a9:=Tryz.isAgg9
 z9:=Tryz.sizeOf9
 v9:=Tryz.zeroValue9
 t26:=Tryz.underlying144
 a26:=Tryz.isAgg144
 z26:=Tryz.sizeOf144
 v26:=Tryz.zeroValue144
 t27:=Tryz.underlying144
 a27:=Tryz.isAgg144
 z27:=Tryz.sizeOf144
 v27:=Tryz.zeroValue144
 t29:=Tryz.underlying9
 a29:=Tryz.isAgg9
 z29:=Tryz.sizeOf9
 v29:=Tryz.zeroValue9
 t32:=Tryz.underlying223
 a32:=Tryz.isAgg223
 z32:=Tryz.sizeOf223
 v32:=Tryz.zeroValue223
 t35:=Tryz.underlying261
 a35:=Tryz.isAgg261
 z35:=Tryz.sizeOf261
 v35:=Tryz.zeroValue261
 t36:=Tryz.underlying262
 a36:=Tryz.isAgg262
 z36:=Tryz.sizeOf262
 v36:=Tryz.zeroValue262
 t41:=Tryz.underlying228
 a41:=Tryz.isAgg228
 z41:=Tryz.sizeOf228
 v41:=Tryz.zeroValue228
 t44:=Tryz.underlying268
 a44:=Tryz.isAgg268
 z44:=Tryz.sizeOf268
 v44:=Tryz.zeroValue268
 t46:=Tryz.underlying270
 a46:=Tryz.isAgg270
 z46:=Tryz.sizeOf270
 v46:=Tryz.zeroValue270
 t53:=Tryz.underlying287
 a53:=Tryz.isAgg287
 z53:=Tryz.sizeOf287
 v53:=Tryz.zeroValue287
 t57:=Tryz.underlying291
 a57:=Tryz.isAgg291
 z57:=Tryz.sizeOf291
 v57:=Tryz.zeroValue291
 t63:=Tryz.underlying308
 a63:=Tryz.isAgg308
 z63:=Tryz.sizeOf308
 v63:=Tryz.zeroValue308
 t64:=Tryz.underlying27
 a64:=Tryz.isAgg27
 z64:=Tryz.sizeOf27
 v64:=Tryz.zeroValue27 }

theorem Fu (m:Nat):AnyZ.SortsIn Tryz.prog SD Fence.wide m:=
 ⟨fun blk off cap ss W hH hblk hsz=>callsIn_wide.2 (AnyM.slices_Sort_string Fb blk off cap ss W hH hblk hsz),
  fun p cap W=>callsIn_wide.2 (AnyM.slices_Sort_string_none Fb p cap W)⟩
theorem Fm (mb:Option Nat) (W:World):Calls Tryz.prog 112 #[.map mb] W fun e w'=>e=.returned (.func (.func 170) #[] #[.pointer (some ⟨W.heap.size,0,none⟩)])∧w'=W.alloc (.cells #[.map mb] 104):=
 callsIn_wide.1 (AnyZ.keys_in G0 Fence.wide 5 trivial rfl mb W)
theorem Hz (b nn:Nat) (D0:DataW Value) (w:World) (hown:w.ownsMap Tryz.prog 9 Vq b nn D0) (hmax:nn≤1000000000) :
  Calls Tryz.prog 111 #[.func (.func 170) #[] #[.pointer (some ⟨w.heap.size,0,none⟩)]] (w.alloc (.cells #[.map (some b)] 104)) fun e w'=>∃ (v:Value) (ss:List (List UInt8)),e=.returned v∧ss.Perm (strKeys D0) ∧
   w'.ownsRow (w.alloc (.cells #[.map (some b)] 104)).heap.size 9 1 v ss.length ((ss.mergeSort (fun x y=>decide (x≤y))).map encStr)∧(v=.slice none 0 0↔ss=[])∧Below (w.alloc (.cells #[.map (some b)] 104)).heap.size (w.alloc (.cells #[.map (some b)] 104)) w':=by
 have hbl:=hown.lt
 have hsz:=hown.size_le
 have hseq:SeqGives Fence.wide 2 Tryz.prog 170 #[.pointer (some ⟨w.heap.size,0,none⟩)] encStr (fun ss=>ss.Perm (strKeys D0)) (Maps.size D0) (w.alloc (.cells #[.map (some b)] 104)):=
  AnyZ.keys_gives (ρ:=Q0) { G0 with } Fence.wide _ trivial rfl (by omega) w.heap.size b nn D0 _ (by simp) (by simp) (by
   obtain ⟨es,clock,hb,Ft,hs,hD⟩:=hown
   exact ⟨es,clock,(Below.heap_alloc _ _ b hbl).trans hb,Ft,hs,hD⟩)
 have cS:=AnyZ.sorted_in GS Fence.wide 5 trivial trivial trivial trivial rfl (by omega) (Fu _) (enters_of Tryz.func169 (by kernel_rfl) rfl) 170 #[.pointer (some ⟨w.heap.size,0,none⟩)] trivial (enters_of Tryz.func170 (by kernel_rfl) rfl) _ _ (by unfold maxLen;omega) (by omega) _ hseq
 exact callsIn_wide.1 cS
theorem Ly:∀ {a b:List UInt8},Go.Op.bytesLess a b=true↔a<b
 | [],[]=>by simp [Go.Op.bytesLess]
 | [],y::b=>by simp [Go.Op.bytesLess]
 | x::a,[]=>by simp [Go.Op.bytesLess]
 | x::a,y::b=>by rw [UH,List.cons_lt_cons_iff,Ly]
def U9 (L:List EQ):List (List UInt8):=L.map fun x=>x.1.1.data.toList
theorem J7 {a b:ByteArray} (h:ltS a b=true):a.data.toList<b.data.toList:=by
 unfold ltS at h
 rw [Go.ByteArray.toList_eq,Go.ByteArray.toList_eq] at h
 exact Ly.1 h
theorem J1 {L:List EQ} (hU:UpE (L.map (·.1))):(U9 L).Pairwise (· < ·):=by
 unfold UpE at hU
 unfold U9
 rw [List.pairwise_map] at hU ⊢
 exact hU.imp (fun h=>J7 h)
theorem MT {w:World} {b nn:Nat} {D:DataW Value} {L:List EQ} {ss:List (List UInt8)} (hown:w.ownsMap Tryz.prog 9 Vq b nn D) (hG:Un D L) (hp:ss.Perm (strKeys D)):ss.mergeSort (fun x y=>decide (x≤y))=U9 L:=by
 obtain ⟨es,hD,hpw,_⟩:=hown.entries WE
 obtain ⟨es',hD',hko⟩:=hown.keysOf
 obtain rfl:es=es':=by rw [hD] at hD';simpa using hD'
 subst hD
 have hup:=J1 hG.up
 have hnd:(U9 L).Nodup:=hup.imp (fun h e=>by subst e;exact absurd h (List.lt_irrefl _))
 have hp2:(U9 L).Perm (strKeys (.map es)):=perm_strKeys hpw (fun p hp=>by obtain ⟨v,hv⟩:=hko p hp;obtain ⟨x,_,hx,_⟩:=Maps.keyOf_str Tryz.underlying9 hv;exact ⟨x,hx⟩) hnd (fun x=>by
  have h9:=hG.has ⟨x.toArray⟩
  have e9:Ve ⟨x.toArray⟩=.string x:=by unfold Ve;simp
  rw [e9] at h9
  rw [h9,WM hG.up]
  unfold U9
  rw [List.mem_map]
  constructor
  ·rintro ⟨y,hy,rfl⟩
   exact ⟨y.1,List.mem_map.2 ⟨y,hy,rfl⟩,by simp⟩
  rintro ⟨e,he,hek⟩
  obtain ⟨y,hy,rfl⟩:=List.mem_map.1 he
  exact ⟨y,hy,by rw [hek]⟩)
 have h1:=mergeSort_of_perm (hp.trans hp2.symm)
 show ss.mergeSort leB=_
 rw [h1]
 exact List.mergeSort_of_pairwise (hup.imp (fun h=>by simp only [leB,decide_eq_true_eq];exact List.le_of_lt h))
theorem KH (L:List EQ):(U9 L).map encStr=L.map fun x=>Value.string x.1.1:=by
 unfold U9
 rw [List.map_map]
 refine List.map_congr_left (fun x _=>?_)
 simp [encStr]

open Go.RowKit Go.Shelf

theorem MK (g:Nat) (a0:Option Addr) (n0 c0:Nat) (xs:List I3) (a1:Option Addr) (n1 c1:Nat) (ys:List I3) (a2:Option Addr) (n2 c2:Nat) (zs:List I3) (w:World) (h0:Zj w a0 n0 c0 xs) (h1:Zj w a1 n1 c1 ys) (h2:Zj w a2 n2 c2 zs) (m0:n0≤300000) (m1:n1≤300000) (m2:n2≤300000)
  (g0:WU a0 c0) (g1:WU a1 c1) (g2:WU a2 c2) (d0:w.cell? ⟨g,0,none⟩=some (.slice a0 n0 c0)) (d1:w.cell? ⟨g,1,none⟩=some (.slice a1 n1 c1)) (d2:w.cell? ⟨g,2,none⟩=some (.slice a2 n2 c2)) :
  Calls Tryz.prog 91 #[.slice (some ⟨g,0,none⟩) 3 3] w fun e w'=>(∃ v,e=.returned v∧(∃ a n c,v=.slice a n c)∧w'.ownsRow w.heap.size 90 3 v (n0+n1+n2) (Zk (xs++ys++zs)))∧Below w.heap.size w w':=by
 obtain ⟨i0,hi,hz0,hz1,hz2⟩:=info_parts Y6
 have l0:=h0.1
 have l1:=h1.1
 have l2:=h2.1
 have n0o:a0=none→n0=0∧c0=0:=fun e=>⟨by have:=h0.2.1;have:=g0.1 e;omega,g0.1 e⟩
 have n1o:a1=none→n1=0∧c1=0:=fun e=>⟨by have:=h1.2.1;have:=g1.1 e;omega,g1.1 e⟩
 have n2o:a2=none→n2=0∧c2=0:=fun e=>⟨by have:=h2.2.1;have:=g2.1 e;omega,g2.1 e⟩
 have H1:Hid (∀ W,Below w.heap.size w W→Zj W a1 n1 c1 ys):=fun W hb=>h1.below hb
 have H2:Hid (∀ W,Below w.heap.size w W→Zj W a2 n2 c2 zs):=fun W hb=>h2.below hb
 have hgw:g<w.heap.size:=World.block_lt_of_cell? _ _ d0
 have kG:Hid (∀ (z:Int) (W:World),z=(n0:Int)+(n1:Int)+(n2:Int)→Calls Tryz.prog 138 #[.slice none 0 0,.int .i64 z] W fun e w'=>(∃ v,e=.returned v∧(∃ a c,v=.slice a 0 c)∧w'.ownsRow W.heap.size 90 3 v 0 [])∧Below W.heap.size W w'):=by
  intro z W hz
  obtain rfl:z=((n0+n1+n2:Nat):Int):=by omega
  exact Nx (n0+n1+n2) W (by omega)
 clear g0 g1 g2
 have HF:Hid (∀ (v:Value) (W:World),W.ownsRow w.heap.size 90 3 v (n0+n1+n2) (Zk xs++(Zk ys++Zk zs))→W.ownsRow w.heap.size 90 3 v (n0+n1+n2) (Zk (xs++ys++zs))):=by
  intro v W q
  rw [Z2,Z2,List.append_assoc]
  exact q
 go_enter Tryz.func91,Tryz.ntmps91
 go_wp2_with fail
 refine wp_loop_rounds 4 ?_
 rw [rounds_succ]
 go_wp2
 rw [rounds_succ]
 go_wp2
 rw [rounds_succ]
 go_wp2
 rw [rounds_succ]
 go_wp2_with fail
 refine (kG.out _ _ (by first | rfl | omega)).mono ?_
 rintro e w1 ⟨⟨v,rfl,⟨aG,cG,rfl⟩,q1⟩,bw⟩
 clear kG
 replace h0:=h0.below bw
 replace h1:=h1.below bw
 replace h2:=h2.below bw
 replace d0:=Za bw _ _ d0
 replace d1:=Za bw _ _ d1
 replace d2:=Za bw _ _ d2
 have hsz:=bw.size
 go_wp2_with fail
 refine wp_loop_rounds 4 ?_
 rw [rounds_succ]
 go_wp2_with (at_builtin;refine Xg rfl _ _ 29 rfl w.heap.size 90 i0 (.agg #[.int .i64 0,.int .i64 0,.int .i64 0]) 3 24 Tryz.underlying29 hi hz0 hz1 hz2 rfl (by decide) (.slice aG 0 cG) _ _ rfl q1 a0 n0 c0 rfl n0o (Zk xs) (by rw [Zr];omega) (fun ad e=>by subst e;exact TV h0) (ZY _) (by unfold maxLen;omega) (by omega) hsz ?_)
 intro v2 U2 q2 gr _
 replace d1:=Zg gr d1 (fun e=>by have h9:=(q1.lt _ e.symm).1;have h8:=hgw;simp at h9;omega)
 replace d2:=Zg gr d2 (fun e=>by have h9:=(q1.lt _ e.symm).1;have h8:=hgw;simp at h9;omega)
 replace bw:=bw.grown gr hsz (fun j hj=>(q1.lt j hj).1)
 replace h1:=H1.out _ bw
 replace h2:=H2.out _ bw
 replace hsz:=Nat.le_trans hsz gr.size
 clear gr
 go_wp2_with fail
 rw [rounds_succ]
 go_wp2_with (at_builtin;refine Xg rfl _ _ 29 rfl w.heap.size 90 i0 (.agg #[.int .i64 0,.int .i64 0,.int .i64 0]) 3 24 Tryz.underlying29 hi hz0 hz1 hz2 rfl (by decide) v2 _ _ rfl q2 a1 n1 c1 rfl n1o (Zk ys) (by rw [Zr];omega) (fun ad e=>by subst e;exact TV h1) (ZY _) (by unfold maxLen;omega) (by omega) hsz ?_)
 intro v3 U3 q3 gr _
 replace d2:=Zg gr d2 (fun e=>by have h9:=(q2.lt _ e.symm).1;have h8:=hgw;simp at h9;omega)
 replace bw:=bw.grown gr hsz (fun j hj=>(q2.lt j hj).1)
 replace h2:=H2.out _ bw
 replace hsz:=Nat.le_trans hsz gr.size
 clear gr
 go_wp2_with fail
 rw [rounds_succ]
 go_wp2_with (at_builtin;refine Xg rfl _ _ 29 rfl w.heap.size 90 i0 (.agg #[.int .i64 0,.int .i64 0,.int .i64 0]) 3 24 Tryz.underlying29 hi hz0 hz1 hz2 rfl (by decide) v3 _ _ rfl q3 a2 n2 c2 rfl n2o (Zk zs) (by rw [Zr];omega) (fun ad e=>by subst e;exact TV h2) (ZY _) (by unfold maxLen;omega) (by omega) hsz ?_)
 intro v4 U4 q4 gr _
 replace bw:=bw.grown gr hsz (fun j hj=>(q3.lt j hj).1)
 replace hsz:=Nat.le_trans hsz gr.size
 clear gr
 go_wp2_with fail
 rw [rounds_succ]
 have HQ:Hid (∀ e:Ending,e=Ending.returned v4→∃ v,e=Ending.returned v∧(∃ a n c,v=Value.slice a n c)∧U4.ownsRow w.heap.size 90 3 v (n0+n1+n2) (Zk (xs++ys++zs))):=fun e he=>⟨_,he,RQ q4,HF.out _ _ q4⟩
 clear q4 q3 q2 h0 h1 h2 d0 d1 d2
 go_wp2
 go_ret
 exact ⟨HQ.out _ rfl,bw⟩
end Go.Proofs.YtmhlokahmblboaaGreatDoor
