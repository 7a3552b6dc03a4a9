/-
  Joined: ChkT, DrwB, EntD, RbgI, LocS.
-/
import Derived.Deep.CutRange
import Derived.Test.YtnffeclgboomoaaGreatDoorT36
import Derived.Test.YtnffeclgboomoaaGreatDoorT37
import Derived.Test.YtnffeclgboomoaaGreatDoorT39

namespace Go.Proofs.YtnffeclgboomoaaGreatDoor
set_option maxRecDepth 100000
set_option maxHeartbeats 16000000
open Go.RowKit
set_option linter.unusedVariables false
set_option linter.unusedSimpArgs false

theorem NZ:∀ (xs:List Int) (n:Int),n ∉ xs→(Yd xs n).length=xs.length+1
 | [],n,_=>by simp [Yd]
 | x::xs,n,h=>by
  have h1:n≠x:=fun e=>h (by rw [e];exact List.mem_cons_self ..)
  have ih:=NZ xs n (fun e=>h (List.mem_cons_of_mem _ e))
  unfold Yd
  repeat' split
  all_goals first | (simp only [List.length_cons,ih];done) | (simp only [List.length_cons];done) | (exfalso;omega)
theorem QF:∀ (xs acc:List Int),xs.Nodup→(∀ x ∈ xs,x ∉ acc)→(xs.foldl Yd acc).length=acc.length+xs.length
 | [],acc,_,_=>rfl
 | x::xs,acc,hn,ha=>by
  have h1:=List.nodup_cons.1 hn
  rw [List.foldl_cons,QF xs _ h1.2 (fun y hy=>by
   rw [Vl]
   rintro (e | e)
   ·subst e;exact h1.1 hy
   exact ha y (List.mem_cons_of_mem _ hy) e),NZ acc x (ha x (List.mem_cons_self ..)),List.length_cons]
  omega
theorem QX {xs:List Int} {a b:Int} (hn:xs.Nodup) (hb:∀ x ∈ xs,a≤x∧x≤b):(xs.length:Int)≤max (b - a+1) 0:=by
 have h1:=QF xs [] hn (fun x _=>by simp)
 have h2:=RT (Yh xs) a b (YN xs) (fun x hx=>hb x ((XE xs x).1 hx))
 unfold Yh at h2
 rw [h1] at h2
 simpa using h2


theorem MY {x:I3} (h:okB x=true):x=(14,0,0)∨∃ k a b:Nat,(k=12∨k=13)∧a<3∧b<6∧x=((k:Int),(a:Int),(b:Int)):=by
 obtain ⟨c,a,b⟩:=x
 unfold okB at h
 simp only at h
 split at h
 ·rename_i e
  simp at h
  exact .inl (by rw [e,h.1,h.2])
 split at h
 ·rename_i e
  simp [Zy] at h
  refine .inr ⟨c.toNat,a.toNat,b.toNat,by omega,by omega,by omega,?_⟩
  rw [Int.toNat_of_nonneg (by omega),Int.toNat_of_nonneg (by omega),Int.toNat_of_nonneg (by omega)]
 cases h
theorem Ub {x:I3} (h:okB x=true):I3.fits x:=by
 rcases MY h with rfl | ⟨k,a,b,hk,ha,hb,rfl⟩
 ·unfold I3.fits;decide
 have h2:a=0∨a=1∨a=2:=by omega
 have h3:b=0∨b=1∨b=2∨b=3∨b=4∨b=5:=by omega
 rcases hk with rfl | rfl<;>rcases h2 with rfl | rfl | rfl<;>rcases h3 with rfl | rfl | rfl | rfl | rfl | rfl<;>(unfold I3.fits;decide)


theorem H3 {xs:List I3} (h1:∀ x ∈ xs,okB x=true) (h2:Ys xs):Wi xs=true:=by
 refine Xg fun k hk=>?_
 have g:∀ i (hi:i<xs.length),xs.getD i (0,0,0)=xs[i]:=fun i hi=>by simp [List.getD,List.getElem?_eq_getElem hi]
 simp only [Tc,Bool.and_eq_true,Bool.or_eq_true,decide_eq_true_eq]
 refine ⟨by rw [g k hk];exact h1 _ (List.getElem_mem _),?_⟩
 by_cases h0:k=0
 ·exact .inl h0
 right
 rw [g k hk,g (k - 1) (by omega)]
 exact List.pairwise_iff_getElem.1 h2 (k - 1) k (by omega) hk (by omega)
theorem Jx {xs:List Int} (h1:∀ x ∈ xs,Y7 x=true) (h2:xs.Pairwise (· < ·)):Wm xs=true:=by
 refine Xg fun k hk=>?_
 have g:∀ i (hi:i<xs.length),xs.getD i 0=xs[i]:=fun i hi=>by simp [List.getD,List.getElem?_eq_getElem hi]
 simp only [UI,Bool.and_eq_true,Bool.or_eq_true,decide_eq_true_eq]
 refine ⟨by rw [g k hk];exact h1 _ (List.getElem_mem _),?_⟩
 by_cases h0:k=0
 ·exact .inl h0
 right
 rw [g k hk,g (k - 1) (by omega)]
 exact List.pairwise_iff_getElem.1 h2 (k - 1) k (by omega) hk (by omega)


theorem Li {w:World} {g t:Nat} {a b c:Value} (h:Blk w g t [a,b,c]):∀ j u,[a,b,c][j]?=some u→w.cell? ((⟨g,0,none⟩:Addr).add j)=some u:=QB h


def Y1 (rows:List (List I3)) (m:V4) (j:Nat):List I3:=((Zn rows m 3).take j).foldl (fun out k=>ZD out (Y6 rows m k)) (ZB rows m)
theorem K9 (rows:List (List I3)) (m:V4):Y1 rows m 0=ZB rows m:=rfl
theorem T9 {rows:List (List I3)} {m:V4} {j:Nat} {k:Int} (h:(Zn rows m 3)[j]?=some k):Y1 rows m (j+1)=ZD (Y1 rows m j) (Y6 rows m k):=by
 unfold Y1
 rw [List.take_add_one,h]
 simp [List.foldl_append]
theorem RD {rows:List (List I3)} {m:V4} {j:Nat} (h:(Zn rows m 3).length≤j):Y1 rows m j=ZA rows m:=by
 unfold Y1 ZA
 rw [List.take_of_length_le h]
theorem GF (rows:List (List I3)) (m:V4):(∀ x ∈ ZB rows m,okB x=true)∧(ZB rows m).length≤1:=by
 unfold ZB
 split
 ·exact ⟨fun x hx=>by simp at hx;subst hx;rfl,by simp⟩
 exact ⟨fun x hx=>by simp at hx,by simp⟩
theorem S0 {rows:List (List I3)} {m:V4} (hp:Zj rows=true) (hs:Zd m=true):∀ j,(∀ x ∈ Y1 rows m j,okB x=true)∧(Y1 rows m j).length≤1+2*j
 | 0=>by rw [K9];exact GF rows m
 | j+1=>by
  have ih:=S0 hp hs j
  cases h:(Zn rows m 3)[j]? with
  | none =>
   have e:Y1 rows m (j+1)=Y1 rows m j:=by unfold Y1;rw [List.take_add_one,h];simp
   rw [e]
   exact ⟨ih.1,by omega⟩
  | some k =>
   have hf:=T5 hp hs (Xi (List.mem_of_getElem? h))
   rw [T9 h]
   exact ⟨Jg ih.1 hf.1,by have:=MV (Y1 rows m j) (Y6 rows m k);have:=hf.2;omega⟩
theorem GN {rows:List (List I3)} {m:V4} (hp:Zj rows=true) (hs:Zd m=true):(∀ x ∈ ZA rows m,okB x=true)∧(ZA rows m).length≤7:=by
 have h:=S0 hp hs (Zn rows m 3).length
 rw [RD (Nat.le_refl _)] at h
 have:=Y3 rows m 3
 exact ⟨h.1,by omega⟩

theorem ND {w:World} {a:Option Addr} {cap:Nat} {cs:Sl × Sl × Sl} {rows:List (List I3)} {s:S4} {m:V4} (hR:Yf w a cs rows) (h:Yy w s m) (hp:Zj rows=true) (hs:Zd m=true) :
  Calls Tryz.prog 168 #[.agg #[.slice a 3 cap],s.val] w fun e w'=>Wn e w' w.heap.size (ZA rows m)∧Below w.heap.size w w':=by
 obtain ⟨i0,hi9,hz0,hz1,hz2⟩:=info_parts Wc
 obtain ⟨⟨t0a,t0n,t0c⟩,⟨t1a,t1n,t1c⟩,⟨t2a,t2n,t2c⟩,⟨t3a,t3n,t3c⟩⟩:=s
 have ut:S4.val ((t0a,t0n,t0c),(t1a,t1n,t1c),(t2a,t2n,t2c),(t3a,t3n,t3c))=.agg #[.slice t0a t0n t0c,.slice t1a t1n t1c,.slice t2a t2n t2c,.slice t3a t3n t3c]:=rfl
 have kU:=fun (W:World) (b:Below w.heap.size w W)=>Sv a 3 cap rows ((t0a,t0n,t0c),(t1a,t1n,t1c),(t2a,t2n,t2c),(t3a,t3n,t3c)) m cs W rfl (hR.below b) (h.below b) hp hs
 have kE:=fun (W:World) (b:Below w.heap.size w W)=>WV a 3 cap rows ((t0a,t0n,t0c),(t1a,t1n,t1c),(t2a,t2n,t2c),(t3a,t3n,t3c)) m cs W rfl (hR.below b) (h.below b) hp hs
 rw [ut] at kU kE ⊢
 have bw:Below w.heap.size w (((w.alloc (.cells #[.slice a 3 cap] 25)).alloc (.cells #[.slice t0a t0n t0c,.slice t1a t1n t1c,.slice t2a t2n t2c,.slice t3a t3n t3c] 112)).alloc (.cells #[] 127)):=by go_grown
 have pP:Blk (((w.alloc (.cells #[.slice a 3 cap] 25)).alloc (.cells #[.slice t0a t0n t0c,.slice t1a t1n t1c,.slice t2a t2n t2c,.slice t3a t3n t3c] 112)).alloc (.cells #[] 127)) w.heap.size 25 [.slice a 3 cap]:=Zg _ (Zg _ (Zi _ _ _ rfl))
 have pS:Blk (((w.alloc (.cells #[.slice a 3 cap] 25)).alloc (.cells #[.slice t0a t0n t0c,.slice t1a t1n t1c,.slice t2a t2n t2c,.slice t3a t3n t3c] 112)).alloc (.cells #[] 127)) (w.heap.size+1) 112 [.slice t0a t0n t0c,.slice t1a t1n t1c,.slice t2a t2n t2c,.slice t3a t3n t3c]:=Zg _ (Zi _ _ _ (by simp))
 have q:(((w.alloc (.cells #[.slice a 3 cap] 25)).alloc (.cells #[.slice t0a t0n t0c,.slice t1a t1n t1c,.slice t2a t2n t2c,.slice t3a t3n t3c] 112)).alloc (.cells #[] 127)).ownsRow w.heap.size 127 3 (.slice (some ⟨w.heap.size+1+1,0,none⟩) 0 0) 0 []:=by
  have h9:=Xb ((w.alloc (.cells #[.slice a 3 cap] 25)).alloc (.cells #[.slice t0a t0n t0c,.slice t1a t1n t1c,.slice t2a t2n t2c,.slice t3a t3n t3c] 112)) 127 3 w.heap.size (by simp;omega)
  simpa using h9
 obtain ⟨g0,hg0⟩:∃ g0,g0=w.heap.size+1+1:=⟨_,rfl⟩
 go_enter Tryz.func168,Tryz.ntmps168
 go_wp2_with fail
 rw [← hg0] at q ⊢
 clear hg0
 generalize ((w.alloc (.cells #[.slice a 3 cap] 25)).alloc (.cells #[.slice t0a t0n t0c,.slice t1a t1n t1c,.slice t2a t2n t2c,.slice t3a t3n t3c] 112)).alloc (.cells #[] 127)=U at *
 have kUx:=kU U bw
 clear kU
 go_wp2_with (first | refine Zc rfl 25 _ rfl w.heap.size rfl pP _ Tryz.underlying25 rfl (by kernel_rfl) ?_ | refine Zc rfl 112 _ rfl (w.heap.size+1) rfl pS _ Tryz.underlying112 rfl (by kernel_rfl) ?_)
 refine kUx.mono ?_
 rintro e w1 ⟨rfl,hb⟩
 replace bw:=Zb bw hb
 replace pP:=pP.below hb
 replace pS:=pS.below hb
 replace q:=Zz q hb
 clear hb kUx
 have key:∀ (W:World) (v:Value),Hid (W.ownsRow w.heap.size 127 3 v (ZB rows m).length (Zm (ZB rows m)))→Hid (W.ownsRow w.heap.size 127 3 v (Y1 rows m 0).length (Zm (Y1 rows m 0))):=fun W v h=>h
 cases hst:Wk rows m
 ·have HQ:Hid (w1.ownsRow w.heap.size 127 3 (.slice (some ⟨g0,0,none⟩) 0 0) (ZB rows m).length (Zm (ZB rows m))):=by
   unfold ZB
   rw [hst]
   exact q
  clear q hst
  have kEx:=kE w1 bw
  clear kE
  go_wp2_with (first | refine Zc rfl 25 _ rfl w.heap.size rfl pP _ Tryz.underlying25 rfl (by kernel_rfl) ?_ | refine Zc rfl 112 _ rfl (w.heap.size+1) rfl pS _ Tryz.underlying112 rfl (by kernel_rfl) ?_)
  refine kEx.mono ?_
  rintro e w6 ⟨⟨⟨la,ln,lc⟩,rfl,hL⟩,hb⟩
  replace bw:=Zb bw hb
  replace pP:=pP.below hb
  replace pS:=pS.below hb
  have HQ2:=key w6 _ (Zz HQ.out hb)
  clear hb kEx HQ key
  have hLn:(Zn rows m 3).length=ln:=by have:=hL.1;simpa using this
  have hl3:=Y3 rows m 3
  go_wp2_with fail
  go_loopw [5,7] (fun s5 s7 wr=>∃ j:Nat,s7=.int .i64 j∧j≤ln∧Hid (wr.ownsRow w.heap.size 127 3 s5 (Y1 rows m j).length (Zm (Y1 rows m j)))∧Below w6.heap.size w6 wr) (fun _ s7 _=>ln - (intOf s7).toNat)
  case atStart=>exact ⟨0,rfl,Nat.zero_le _,HQ2,Below.refl _ _⟩
  case round =>
   clear HQ2
   obtain ⟨j,rfl,hjn,HQ,bq⟩:=hrel
   have q:=HQ.out
   obtain ⟨va,vn,vc,rfl⟩:=RK q
   obtain ⟨hlo,hll⟩:=S0 hp hs j
   replace bw:=Zb bw bq
   replace pP:=pP.below bq
   replace pS:=pS.below bq
   replace hL:=hL.below bq
   clear HQ
   by_cases hlt2:j<ln
   ·have hkj:(Zn rows m 3)[j]?=some ((Zn rows m 3).getD j 0):=by rw [List.getD,List.getElem?_eq_getElem (by omega)];rfl
    have hz:=Xi (List.mem_of_getElem? hkj)
    obtain ⟨h0k,h2k,hd9,_⟩:=X6 hz
    obtain ⟨k,hk⟩:∃ k:Nat,(Zn rows m 3).getD j 0=(k:Int):=⟨_,(Int.toNat_of_nonneg h0k).symm⟩
    obtain ⟨lb,lo,rfl,hc,hlb⟩:=Vs hL.ints (show j<ln from hlt2)
    rw [hk] at hkj hz hd9 h0k h2k hc
    rw [Int.toNat_natCast] at hd9
    have hk3:k<3:=by omega
    clear hk hlb
    have hfo:=T5 hp hs hz
    have HLS:Hid (Y1 rows m (j+1)=ZD (Y1 rows m j) (Y6 rows m (k:Int))):=T9 hkj
    have kP:=fun (W:World) (b:Below w.heap.size w W)=>Sw (cap:=cap) (hR.below b) (h.below b) hp hs hk3 hd9
    rw [ut] at kP
    generalize (goM rows m (k:Int)).1=z at *
    generalize Y6 rows m (k:Int)=fs at *
    have hlt3:(j:Int)<(ln:Int):=by omega
    have hj0:(0:Int)≤(j:Int):=by omega
    clear hkj hz hd9
    go_wp2_with fail
    have hb9:Below wr.heap.size wr wr.drew:=by go_grown
    refine wp_region_held_drew (S:=(fun w'=>w'.cell? ⟨w.heap.size,0,none⟩=some (.slice a 3 cap)∧w'.cell? ⟨w.heap.size+1,0,none⟩=some (.slice t0a t0n t0c)∧w'.cell? ⟨w.heap.size+1,1,none⟩=some (.slice t1a t1n t1c)∧w'.cell? ⟨w.heap.size+1,2,none⟩=some (.slice t2a t2n t2c)∧w'.cell? ⟨w.heap.size+1,3,none⟩=some (.slice t3a t3n t3c)∧w'.cell? ⟨lb,lo+j,none⟩=some (.int .i64 (k:Int)))) (by kernel_rfl) ⟨by simpa using pP.cell 0,by simpa using pS.cell 0,by simpa using pS.cell 1,by simpa using pS.cell 2,by simpa using pS.cell 3,hc⟩ (fun hS0=>?_)
    refine tkm 0 28 (.agg #[.slice a 3 cap]) ?_
    refine tkm 1 29 (.agg #[.slice t0a t0n t0c,.slice t1a t1n t1c,.slice t2a t2n t2c,.slice t3a t3n t3c]) ?_
    refine tkm 2 30 (.slice (some ⟨lb,lo,none⟩) ln lc) ?_
    refine tkm 3 31 (.int .i64 (j:Int)) ?_
    refine tkm 4 32 (.pointer (some ⟨lb,lo+j,none⟩)) ?_
    refine tkm 5 33 (.int .i64 (k:Int)) ?_
    replace bw:=Zb bw hb9
    replace bq:=Zb bq hb9
    replace q:=Zz q hb9
    clear hb9
    generalize wr.drew=V at *
    refine wpAnyH_ready (rs:=[6,10]) (by kernel_rfl) (by simp) ?_
    refine AllReadyH.cons (o:=⟨some 34,_,_,_,_,_⟩) rfl (fun K hK=>?_) (AllReadyH.cons (o:=⟨some 8,_,_,_,_,_⟩) rfl (fun K hK=>?_) AllReadyH.nil)
    ·have kPx:=kP V bw
     go_simp
     refine kPx.mono ?_
     rintro e V1 ⟨⟨⟨⟨z0a,z0n,z0c⟩,⟨z1a,z1n,z1c⟩,⟨z2a,z2n,z2c⟩,⟨z3a,z3n,z3c⟩⟩,v9,rfl,hO2,qf⟩,hb1⟩
     have uz:S4.val ((z0a,z0n,z0c),(z1a,z1n,z1c),(z2a,z2n,z2c),(z3a,z3n,z3c))=.agg #[.slice z0a z0n z0c,.slice z1a z1n z1c,.slice z2a z2n z2c,.slice z3a z3n z3c]:=rfl
     rw [uz]
     clear uz
     obtain ⟨fa,fc,rfl,hI9,hGd9⟩:=Z8 qf (fun x hx=>Yx (hfo.1 x hx))
     clear hGd9 hO2 hI9
     go_wp2_with fail
     refine hK.out _ _ ⟨Za hb1 _ _ hS0.1,Za hb1 _ _ hS0.2.1,Za hb1 _ _ hS0.2.2.1,Za hb1 _ _ hS0.2.2.2.1,Za hb1 _ _ hS0.2.2.2.2.1,Za hb1 _ _ hS0.2.2.2.2.2⟩ (fun hS5=>?_)
     clear hK kPx
     try simp only [Act.put,tka,tkb,tkc]
     refine tkm 7 27 (.tuple #[.agg #[.slice z0a z0n z0c,.slice z1a z1n z1c,.slice z2a z2n z2c,.slice z3a z3n z3c],.slice fa fs.length fc]) ?_
     refine tkm 8 35 (.agg #[.slice z0a z0n z0c,.slice z1a z1n z1c,.slice z2a z2n z2c,.slice z3a z3n z3c]) ?_
     refine tkm 9 36 (.slice fa fs.length fc) ?_
     refine tkr 10 8 (fun K hK=>?_)
     have hb2:Below V1.heap.size V1 (V1.alloc (.cells #[.slice none 0 0,.slice none 0 0,.slice none 0 0,.slice none 0 0] 112)):=by go_grown
     have pX:Blk (V1.alloc (.cells #[.slice none 0 0,.slice none 0 0,.slice none 0 0,.slice none 0 0] 112)) V1.heap.size 112 [.slice none 0 0,.slice none 0 0,.slice none 0 0,.slice none 0 0]:=Zi _ _ _ rfl
     replace qf:=Zz qf hb2
     have hbA:=Zb hb1 hb2
     have hYV:V.heap.size≤V1.heap.size:=hb1.size
     go_simp
     refine hK.out _ _ ⟨Za hbA _ _ hS0.1,Za hbA _ _ hS0.2.1,Za hbA _ _ hS0.2.2.1,Za hbA _ _ hS0.2.2.2.1,Za hbA _ _ hS0.2.2.2.2.1,Za hbA _ _ hS0.2.2.2.2.2⟩ (fun hS6=>?_)
     clear hK hb1 hb2
     generalize (V1.alloc (.cells #[.slice none 0 0,.slice none 0 0,.slice none 0 0,.slice none 0 0] 112))=V2 at *
     generalize V1.heap.size=Y at *
     try simp only [Act.put,tka,tkb,tkc]
     refine tkz 11 (fun K hK=>?_)
     refine Xp rfl 112 _ _ rfl Y [.slice z0a z0n z0c,.slice z1a z1n z1c,.slice z2a z2n z2c,.slice z3a z3n z3c] rfl rfl pX (by kernel_rfl) rfl rfl ?_
     intro V8 pX8 g8
     have hbig:=hbA.grown g8 hbA.size (fun q hq=>by cases hq;exact hYV)
     replace qf:=qf.kept g8 (Yv qf pX (by decide))
     obtain ⟨fa9,fc9,ef9,hI8,hGd8⟩:=Z8 qf (fun x hx=>Yx (hfo.1 x hx))
     cases ef9
     clear hGd8 qf
     refine hK.out _ _ ⟨Za hbig _ _ hS0.1,Za hbig _ _ hS0.2.1,Za hbig _ _ hS0.2.2.1,Za hbig _ _ hS0.2.2.2.1,Za hbig _ _ hS0.2.2.2.2.1,Za hbig _ _ hS0.2.2.2.2.2⟩ (fun hS7=>?_)
     clear hK pX g8 hbA hYV pX8
     try simp only [Act.put,tka,tkb,tkc]
     refine tkm 12 9 (.slice fa fs.length fc) ?_
     refine wpAnyH_done (by kernel_rfl) ?_ _
     replace bw:=Zb bw hbig
     replace bq:=Zb bq hbig
     replace q:=Zz q hbig
     clear hbig hS0 hS5 hS6 hS7 pP pS kP hc hL
     obtain ⟨va9,vc9,ev9,hIv,hGv⟩:=Z8 q (fun x hx=>Yx (hlo x hx))
     cases ev9
     have kM:=Wd va (Y1 rows m j).length vc (Y1 rows m j) fa fs.length fc fs V8 hIv hI8 (by omega) (by have:=hfo.2;omega)
     clear hIv hGv hI8 q
     go_wp2_with fail
     refine kM.mono ?_
     rintro e V10 ⟨⟨v6,rfl,q6⟩,hb⟩
     have hV8:=bw.size
     have HQ9:Hid (V10.ownsRow w.heap.size 127 3 v6 (Y1 rows m (j+1)).length (Zm (Y1 rows m (j+1)))):=by rw [HLS.out];exact Xl q6 hV8
     have bq9:=Zb bq hb
     clear hb q6 kM HLS bq bw
     go_wp2
     go_roundw
     case rel=>exact ⟨j+1,by go_num,by omega,HQ9,bq9⟩
     case measure=>simp [intOf];omega
    have hb1:Below V.heap.size V (V.alloc (.cells #[.slice none 0 0,.slice none 0 0,.slice none 0 0,.slice none 0 0] 112)):=by go_grown
    have pX:Blk (V.alloc (.cells #[.slice none 0 0,.slice none 0 0,.slice none 0 0,.slice none 0 0] 112)) V.heap.size 112 [.slice none 0 0,.slice none 0 0,.slice none 0 0,.slice none 0 0]:=Zi _ _ _ rfl
    have hYV:V.heap.size≤V.heap.size:=Nat.le_refl _
    go_simp
    refine hK.out _ _ ⟨Za hb1 _ _ hS0.1,Za hb1 _ _ hS0.2.1,Za hb1 _ _ hS0.2.2.1,Za hb1 _ _ hS0.2.2.2.1,Za hb1 _ _ hS0.2.2.2.2.1,Za hb1 _ _ hS0.2.2.2.2.2⟩ (fun hS6=>?_)
    clear hK
    have kPx:=kP _ (Zb bw hb1)
    generalize (V.alloc (.cells #[.slice none 0 0,.slice none 0 0,.slice none 0 0,.slice none 0 0] 112))=V2 at *
    obtain ⟨Y,hY⟩:∃ Y,Y=V.heap.size:=⟨_,rfl⟩
    rw [← hY] at pX hYV ⊢
    replace hYV:V.heap.size≤Y:=by omega
    clear hY
    try simp only [Act.put,tka,tkb,tkc]
    refine tkr 6 34 (fun K hK=>?_)
    go_simp
    refine kPx.mono ?_
    rintro e V3 ⟨⟨⟨⟨z0a,z0n,z0c⟩,⟨z1a,z1n,z1c⟩,⟨z2a,z2n,z2c⟩,⟨z3a,z3n,z3c⟩⟩,v9,rfl,hO2,qf⟩,hb2⟩
    have uz:S4.val ((z0a,z0n,z0c),(z1a,z1n,z1c),(z2a,z2n,z2c),(z3a,z3n,z3c))=.agg #[.slice z0a z0n z0c,.slice z1a z1n z1c,.slice z2a z2n z2c,.slice z3a z3n z3c]:=rfl
    rw [uz]
    clear uz
    obtain ⟨fa,fc,rfl,hI9,hGd9⟩:=Z8 qf (fun x hx=>Yx (hfo.1 x hx))
    clear hGd9 hO2 hI9
    go_wp2_with fail
    have hbA:=Zb hb1 hb2
    replace pX:=pX.below hb2
    refine hK.out _ _ ⟨Za hbA _ _ hS0.1,Za hbA _ _ hS0.2.1,Za hbA _ _ hS0.2.2.1,Za hbA _ _ hS0.2.2.2.1,Za hbA _ _ hS0.2.2.2.2.1,Za hbA _ _ hS0.2.2.2.2.2⟩ (fun hS5=>?_)
    clear hK kPx hb1 hb2
    try simp only [Act.put,tka,tkb,tkc]
    refine tkm 7 27 (.tuple #[.agg #[.slice z0a z0n z0c,.slice z1a z1n z1c,.slice z2a z2n z2c,.slice z3a z3n z3c],.slice fa fs.length fc]) ?_
    refine tkm 8 35 (.agg #[.slice z0a z0n z0c,.slice z1a z1n z1c,.slice z2a z2n z2c,.slice z3a z3n z3c]) ?_
    refine tkm 9 36 (.slice fa fs.length fc) ?_
    refine tkz 11 (fun K hK=>?_)
    refine Xp rfl 112 _ _ rfl Y [.slice z0a z0n z0c,.slice z1a z1n z1c,.slice z2a z2n z2c,.slice z3a z3n z3c] rfl rfl pX (by kernel_rfl) rfl rfl ?_
    intro V8 pX8 g8
    have hbig:=hbA.grown g8 hbA.size (fun q hq=>by cases hq;exact hYV)
    replace qf:=qf.kept g8 (Yv qf pX (by decide))
    obtain ⟨fa9,fc9,ef9,hI8,hGd8⟩:=Z8 qf (fun x hx=>Yx (hfo.1 x hx))
    cases ef9
    clear hGd8 qf
    refine hK.out _ _ ⟨Za hbig _ _ hS0.1,Za hbig _ _ hS0.2.1,Za hbig _ _ hS0.2.2.1,Za hbig _ _ hS0.2.2.2.1,Za hbig _ _ hS0.2.2.2.2.1,Za hbig _ _ hS0.2.2.2.2.2⟩ (fun hS7=>?_)
    clear hK pX g8 hbA hYV pX8
    try simp only [Act.put,tka,tkb,tkc]
    refine tkm 12 9 (.slice fa fs.length fc) ?_
    refine wpAnyH_done (by kernel_rfl) ?_ _
    replace bw:=Zb bw hbig
    replace bq:=Zb bq hbig
    replace q:=Zz q hbig
    clear hbig hS0 hS5 hS6 hS7 pP pS kP hc hL
    obtain ⟨va9,vc9,ev9,hIv,hGv⟩:=Z8 q (fun x hx=>Yx (hlo x hx))
    cases ev9
    have kM:=Wd va (Y1 rows m j).length vc (Y1 rows m j) fa fs.length fc fs V8 hIv hI8 (by omega) (by have:=hfo.2;omega)
    clear hIv hGv hI8 q
    go_wp2_with fail
    refine kM.mono ?_
    rintro e V10 ⟨⟨v6,rfl,q6⟩,hb⟩
    have hV8:=bw.size
    have HQ9:Hid (V10.ownsRow w.heap.size 127 3 v6 (Y1 rows m (j+1)).length (Zm (Y1 rows m (j+1)))):=by rw [HLS.out];exact Xl q6 hV8
    have bq9:=Zb bq hb
    clear hb q6 kM HLS bq bw
    go_wp2
    go_roundw
    case rel=>exact ⟨j+1,by go_num,by omega,HQ9,bq9⟩
    case measure=>simp [intOf];omega
   have hge2:¬ (j:Int)<(ln:Int):=by omega
   have HG:Hid (Wn (.returned (.slice va vn vc)) wr w.heap.size (ZA rows m)):=by
    rw [← RD (j:=j) (by omega)]
    exact ⟨_,rfl,q⟩
   clear q hL pP pS
   go_wp2
   go_ret
   exact ⟨HG.out,bw⟩
 have HD:Hid (ZB rows m=[(14,0,0)]):=by rw [Hid];unfold ZB;rw [hst];rfl
 clear hst
 go_wp2_with (at_builtin;refine wpList_append_own_at _ rfl _ _ 28 rfl w.heap.size 127 i0 (.agg #[.int .i64 0,.int .i64 0,.int .i64 0]) 3 24 Tryz.underlying28 hi9 hz0 hz1 hz2 rfl (by decide) _ _ _ rfl (q.alloc _) ⟨w1.heap.size,0,none⟩ 1 1 [.int .i64 14,.int .i64 0,.int .i64 0] rfl rfl (Li (Zi _ _ _ rfl)) (Xu _ _ _) ?c3 ?c4 ?c5 ?_)
 case c3=>unfold maxLen;omega
 case c4=>omega
 case c5=>have:=bw.size;simp;omega
 intro v6 w4 q6 gr _ at6
 have ha:Below w1.heap.size w1 (w1.alloc (.cells #[.int .i64 14,.int .i64 0,.int .i64 0] 127)):=by go_grown
 replace pP:=(pP.below ha).kept gr (Zw (q.alloc _) (pP.below ha) (by decide))
 replace pS:=(pS.below ha).kept gr (Zw (q.alloc _) (pS.below ha) (by decide))
 replace bw:=(Zb bw ha).grown gr (Zb bw ha).size (fun k e=>(YO (q.alloc (.cells #[.int .i64 14,.int .i64 0,.int .i64 0] 127)) e).1)
 have HQ:Hid (w4.ownsRow w.heap.size 127 3 v6 (ZB rows m).length (Zm (ZB rows m))):=by
  rw [HD.out]
  exact q6
 clear q q6 gr at6 ha HD
 have kEx:=kE w4 bw
 clear kE
 go_wp2_with (first | refine Zc rfl 25 _ rfl w.heap.size rfl pP _ Tryz.underlying25 rfl (by kernel_rfl) ?_ | refine Zc rfl 112 _ rfl (w.heap.size+1) rfl pS _ Tryz.underlying112 rfl (by kernel_rfl) ?_)
 refine kEx.mono ?_
 rintro e w6 ⟨⟨⟨la,ln,lc⟩,rfl,hL⟩,hb⟩
 replace bw:=Zb bw hb
 replace pP:=pP.below hb
 replace pS:=pS.below hb
 have HQ2:=key w6 _ (Zz HQ.out hb)
 clear hb kEx HQ key
 have hLn:(Zn rows m 3).length=ln:=by have:=hL.1;simpa using this
 have hl3:=Y3 rows m 3
 go_wp2_with fail
 go_loopw [5,7] (fun s5 s7 wr=>∃ j:Nat,s7=.int .i64 j∧j≤ln∧Hid (wr.ownsRow w.heap.size 127 3 s5 (Y1 rows m j).length (Zm (Y1 rows m j)))∧Below w6.heap.size w6 wr) (fun _ s7 _=>ln - (intOf s7).toNat)
 case atStart=>exact ⟨0,rfl,Nat.zero_le _,HQ2,Below.refl _ _⟩
 case round =>
  clear HQ2
  obtain ⟨j,rfl,hjn,HQ,bq⟩:=hrel
  have q:=HQ.out
  obtain ⟨va,vn,vc,rfl⟩:=RK q
  obtain ⟨hlo,hll⟩:=S0 hp hs j
  replace bw:=Zb bw bq
  replace pP:=pP.below bq
  replace pS:=pS.below bq
  replace hL:=hL.below bq
  clear HQ
  by_cases hlt2:j<ln
  ·have hkj:(Zn rows m 3)[j]?=some ((Zn rows m 3).getD j 0):=by rw [List.getD,List.getElem?_eq_getElem (by omega)];rfl
   have hz:=Xi (List.mem_of_getElem? hkj)
   obtain ⟨h0k,h2k,hd9,_⟩:=X6 hz
   obtain ⟨k,hk⟩:∃ k:Nat,(Zn rows m 3).getD j 0=(k:Int):=⟨_,(Int.toNat_of_nonneg h0k).symm⟩
   obtain ⟨lb,lo,rfl,hc,hlb⟩:=Vs hL.ints (show j<ln from hlt2)
   rw [hk] at hkj hz hd9 h0k h2k hc
   rw [Int.toNat_natCast] at hd9
   have hk3:k<3:=by omega
   clear hk hlb
   have hfo:=T5 hp hs hz
   have HLS:Hid (Y1 rows m (j+1)=ZD (Y1 rows m j) (Y6 rows m (k:Int))):=T9 hkj
   have kP:=fun (W:World) (b:Below w.heap.size w W)=>Sw (cap:=cap) (hR.below b) (h.below b) hp hs hk3 hd9
   rw [ut] at kP
   generalize (goM rows m (k:Int)).1=z at *
   generalize Y6 rows m (k:Int)=fs at *
   have hlt3:(j:Int)<(ln:Int):=by omega
   have hj0:(0:Int)≤(j:Int):=by omega
   clear hkj hz hd9
   go_wp2_with fail
   have hb9:Below wr.heap.size wr wr.drew:=by go_grown
   refine wp_region_held_drew (S:=(fun w'=>w'.cell? ⟨w.heap.size,0,none⟩=some (.slice a 3 cap)∧w'.cell? ⟨w.heap.size+1,0,none⟩=some (.slice t0a t0n t0c)∧w'.cell? ⟨w.heap.size+1,1,none⟩=some (.slice t1a t1n t1c)∧w'.cell? ⟨w.heap.size+1,2,none⟩=some (.slice t2a t2n t2c)∧w'.cell? ⟨w.heap.size+1,3,none⟩=some (.slice t3a t3n t3c)∧w'.cell? ⟨lb,lo+j,none⟩=some (.int .i64 (k:Int)))) (by kernel_rfl) ⟨by simpa using pP.cell 0,by simpa using pS.cell 0,by simpa using pS.cell 1,by simpa using pS.cell 2,by simpa using pS.cell 3,hc⟩ (fun hS0=>?_)
   refine tkm 0 28 (.agg #[.slice a 3 cap]) ?_
   refine tkm 1 29 (.agg #[.slice t0a t0n t0c,.slice t1a t1n t1c,.slice t2a t2n t2c,.slice t3a t3n t3c]) ?_
   refine tkm 2 30 (.slice (some ⟨lb,lo,none⟩) ln lc) ?_
   refine tkm 3 31 (.int .i64 (j:Int)) ?_
   refine tkm 4 32 (.pointer (some ⟨lb,lo+j,none⟩)) ?_
   refine tkm 5 33 (.int .i64 (k:Int)) ?_
   replace bw:=Zb bw hb9
   replace bq:=Zb bq hb9
   replace q:=Zz q hb9
   clear hb9
   generalize wr.drew=V at *
   refine wpAnyH_ready (rs:=[6,10]) (by kernel_rfl) (by simp) ?_
   refine AllReadyH.cons (o:=⟨some 34,_,_,_,_,_⟩) rfl (fun K hK=>?_) (AllReadyH.cons (o:=⟨some 8,_,_,_,_,_⟩) rfl (fun K hK=>?_) AllReadyH.nil)
   ·have kPx:=kP V bw
    go_simp
    refine kPx.mono ?_
    rintro e V1 ⟨⟨⟨⟨z0a,z0n,z0c⟩,⟨z1a,z1n,z1c⟩,⟨z2a,z2n,z2c⟩,⟨z3a,z3n,z3c⟩⟩,v9,rfl,hO2,qf⟩,hb1⟩
    have uz:S4.val ((z0a,z0n,z0c),(z1a,z1n,z1c),(z2a,z2n,z2c),(z3a,z3n,z3c))=.agg #[.slice z0a z0n z0c,.slice z1a z1n z1c,.slice z2a z2n z2c,.slice z3a z3n z3c]:=rfl
    rw [uz]
    clear uz
    obtain ⟨fa,fc,rfl,hI9,hGd9⟩:=Z8 qf (fun x hx=>Yx (hfo.1 x hx))
    clear hGd9 hO2 hI9
    go_wp2_with fail
    refine hK.out _ _ ⟨Za hb1 _ _ hS0.1,Za hb1 _ _ hS0.2.1,Za hb1 _ _ hS0.2.2.1,Za hb1 _ _ hS0.2.2.2.1,Za hb1 _ _ hS0.2.2.2.2.1,Za hb1 _ _ hS0.2.2.2.2.2⟩ (fun hS5=>?_)
    clear hK kPx
    try simp only [Act.put,tka,tkb,tkc]
    refine tkm 7 27 (.tuple #[.agg #[.slice z0a z0n z0c,.slice z1a z1n z1c,.slice z2a z2n z2c,.slice z3a z3n z3c],.slice fa fs.length fc]) ?_
    refine tkm 8 35 (.agg #[.slice z0a z0n z0c,.slice z1a z1n z1c,.slice z2a z2n z2c,.slice z3a z3n z3c]) ?_
    refine tkm 9 36 (.slice fa fs.length fc) ?_
    refine tkr 10 8 (fun K hK=>?_)
    have hb2:Below V1.heap.size V1 (V1.alloc (.cells #[.slice none 0 0,.slice none 0 0,.slice none 0 0,.slice none 0 0] 112)):=by go_grown
    have pX:Blk (V1.alloc (.cells #[.slice none 0 0,.slice none 0 0,.slice none 0 0,.slice none 0 0] 112)) V1.heap.size 112 [.slice none 0 0,.slice none 0 0,.slice none 0 0,.slice none 0 0]:=Zi _ _ _ rfl
    replace qf:=Zz qf hb2
    have hbA:=Zb hb1 hb2
    have hYV:V.heap.size≤V1.heap.size:=hb1.size
    go_simp
    refine hK.out _ _ ⟨Za hbA _ _ hS0.1,Za hbA _ _ hS0.2.1,Za hbA _ _ hS0.2.2.1,Za hbA _ _ hS0.2.2.2.1,Za hbA _ _ hS0.2.2.2.2.1,Za hbA _ _ hS0.2.2.2.2.2⟩ (fun hS6=>?_)
    clear hK hb1 hb2
    generalize (V1.alloc (.cells #[.slice none 0 0,.slice none 0 0,.slice none 0 0,.slice none 0 0] 112))=V2 at *
    generalize V1.heap.size=Y at *
    try simp only [Act.put,tka,tkb,tkc]
    refine tkz 11 (fun K hK=>?_)
    refine Xp rfl 112 _ _ rfl Y [.slice z0a z0n z0c,.slice z1a z1n z1c,.slice z2a z2n z2c,.slice z3a z3n z3c] rfl rfl pX (by kernel_rfl) rfl rfl ?_
    intro V8 pX8 g8
    have hbig:=hbA.grown g8 hbA.size (fun q hq=>by cases hq;exact hYV)
    replace qf:=qf.kept g8 (Yv qf pX (by decide))
    obtain ⟨fa9,fc9,ef9,hI8,hGd8⟩:=Z8 qf (fun x hx=>Yx (hfo.1 x hx))
    cases ef9
    clear hGd8 qf
    refine hK.out _ _ ⟨Za hbig _ _ hS0.1,Za hbig _ _ hS0.2.1,Za hbig _ _ hS0.2.2.1,Za hbig _ _ hS0.2.2.2.1,Za hbig _ _ hS0.2.2.2.2.1,Za hbig _ _ hS0.2.2.2.2.2⟩ (fun hS7=>?_)
    clear hK pX g8 hbA hYV pX8
    try simp only [Act.put,tka,tkb,tkc]
    refine tkm 12 9 (.slice fa fs.length fc) ?_
    refine wpAnyH_done (by kernel_rfl) ?_ _
    replace bw:=Zb bw hbig
    replace bq:=Zb bq hbig
    replace q:=Zz q hbig
    clear hbig hS0 hS5 hS6 hS7 pP pS kP hc hL
    obtain ⟨va9,vc9,ev9,hIv,hGv⟩:=Z8 q (fun x hx=>Yx (hlo x hx))
    cases ev9
    have kM:=Wd va (Y1 rows m j).length vc (Y1 rows m j) fa fs.length fc fs V8 hIv hI8 (by omega) (by have:=hfo.2;omega)
    clear hIv hGv hI8 q
    go_wp2_with fail
    refine kM.mono ?_
    rintro e V10 ⟨⟨v6,rfl,q6⟩,hb⟩
    have hV8:=bw.size
    have HQ9:Hid (V10.ownsRow w.heap.size 127 3 v6 (Y1 rows m (j+1)).length (Zm (Y1 rows m (j+1)))):=by rw [HLS.out];exact Xl q6 hV8
    have bq9:=Zb bq hb
    clear hb q6 kM HLS bq bw
    go_wp2
    go_roundw
    case rel=>exact ⟨j+1,by go_num,by omega,HQ9,bq9⟩
    case measure=>simp [intOf];omega
   have hb1:Below V.heap.size V (V.alloc (.cells #[.slice none 0 0,.slice none 0 0,.slice none 0 0,.slice none 0 0] 112)):=by go_grown
   have pX:Blk (V.alloc (.cells #[.slice none 0 0,.slice none 0 0,.slice none 0 0,.slice none 0 0] 112)) V.heap.size 112 [.slice none 0 0,.slice none 0 0,.slice none 0 0,.slice none 0 0]:=Zi _ _ _ rfl
   have hYV:V.heap.size≤V.heap.size:=Nat.le_refl _
   go_simp
   refine hK.out _ _ ⟨Za hb1 _ _ hS0.1,Za hb1 _ _ hS0.2.1,Za hb1 _ _ hS0.2.2.1,Za hb1 _ _ hS0.2.2.2.1,Za hb1 _ _ hS0.2.2.2.2.1,Za hb1 _ _ hS0.2.2.2.2.2⟩ (fun hS6=>?_)
   clear hK
   have kPx:=kP _ (Zb bw hb1)
   generalize (V.alloc (.cells #[.slice none 0 0,.slice none 0 0,.slice none 0 0,.slice none 0 0] 112))=V2 at *
   obtain ⟨Y,hY⟩:∃ Y,Y=V.heap.size:=⟨_,rfl⟩
   rw [← hY] at pX hYV ⊢
   replace hYV:V.heap.size≤Y:=by omega
   clear hY
   try simp only [Act.put,tka,tkb,tkc]
   refine tkr 6 34 (fun K hK=>?_)
   go_simp
   refine kPx.mono ?_
   rintro e V3 ⟨⟨⟨⟨z0a,z0n,z0c⟩,⟨z1a,z1n,z1c⟩,⟨z2a,z2n,z2c⟩,⟨z3a,z3n,z3c⟩⟩,v9,rfl,hO2,qf⟩,hb2⟩
   have uz:S4.val ((z0a,z0n,z0c),(z1a,z1n,z1c),(z2a,z2n,z2c),(z3a,z3n,z3c))=.agg #[.slice z0a z0n z0c,.slice z1a z1n z1c,.slice z2a z2n z2c,.slice z3a z3n z3c]:=rfl
   rw [uz]
   clear uz
   obtain ⟨fa,fc,rfl,hI9,hGd9⟩:=Z8 qf (fun x hx=>Yx (hfo.1 x hx))
   clear hGd9 hO2 hI9
   go_wp2_with fail
   have hbA:=Zb hb1 hb2
   replace pX:=pX.below hb2
   refine hK.out _ _ ⟨Za hbA _ _ hS0.1,Za hbA _ _ hS0.2.1,Za hbA _ _ hS0.2.2.1,Za hbA _ _ hS0.2.2.2.1,Za hbA _ _ hS0.2.2.2.2.1,Za hbA _ _ hS0.2.2.2.2.2⟩ (fun hS5=>?_)
   clear hK kPx hb1 hb2
   try simp only [Act.put,tka,tkb,tkc]
   refine tkm 7 27 (.tuple #[.agg #[.slice z0a z0n z0c,.slice z1a z1n z1c,.slice z2a z2n z2c,.slice z3a z3n z3c],.slice fa fs.length fc]) ?_
   refine tkm 8 35 (.agg #[.slice z0a z0n z0c,.slice z1a z1n z1c,.slice z2a z2n z2c,.slice z3a z3n z3c]) ?_
   refine tkm 9 36 (.slice fa fs.length fc) ?_
   refine tkz 11 (fun K hK=>?_)
   refine Xp rfl 112 _ _ rfl Y [.slice z0a z0n z0c,.slice z1a z1n z1c,.slice z2a z2n z2c,.slice z3a z3n z3c] rfl rfl pX (by kernel_rfl) rfl rfl ?_
   intro V8 pX8 g8
   have hbig:=hbA.grown g8 hbA.size (fun q hq=>by cases hq;exact hYV)
   replace qf:=qf.kept g8 (Yv qf pX (by decide))
   obtain ⟨fa9,fc9,ef9,hI8,hGd8⟩:=Z8 qf (fun x hx=>Yx (hfo.1 x hx))
   cases ef9
   clear hGd8 qf
   refine hK.out _ _ ⟨Za hbig _ _ hS0.1,Za hbig _ _ hS0.2.1,Za hbig _ _ hS0.2.2.1,Za hbig _ _ hS0.2.2.2.1,Za hbig _ _ hS0.2.2.2.2.1,Za hbig _ _ hS0.2.2.2.2.2⟩ (fun hS7=>?_)
   clear hK pX g8 hbA hYV pX8
   try simp only [Act.put,tka,tkb,tkc]
   refine tkm 12 9 (.slice fa fs.length fc) ?_
   refine wpAnyH_done (by kernel_rfl) ?_ _
   replace bw:=Zb bw hbig
   replace bq:=Zb bq hbig
   replace q:=Zz q hbig
   clear hbig hS0 hS5 hS6 hS7 pP pS kP hc hL
   obtain ⟨va9,vc9,ev9,hIv,hGv⟩:=Z8 q (fun x hx=>Yx (hlo x hx))
   cases ev9
   have kM:=Wd va (Y1 rows m j).length vc (Y1 rows m j) fa fs.length fc fs V8 hIv hI8 (by omega) (by have:=hfo.2;omega)
   clear hIv hGv hI8 q
   go_wp2_with fail
   refine kM.mono ?_
   rintro e V10 ⟨⟨v6,rfl,q6⟩,hb⟩
   have hV8:=bw.size
   have HQ9:Hid (V10.ownsRow w.heap.size 127 3 v6 (Y1 rows m (j+1)).length (Zm (Y1 rows m (j+1)))):=by rw [HLS.out];exact Xl q6 hV8
   have bq9:=Zb bq hb
   clear hb q6 kM HLS bq bw
   go_wp2
   go_roundw
   case rel=>exact ⟨j+1,by go_num,by omega,HQ9,bq9⟩
   case measure=>simp [intOf];omega
  have hge2:¬ (j:Int)<(ln:Int):=by omega
  have HG:Hid (Wn (.returned (.slice va vn vc)) wr w.heap.size (ZA rows m)):=by
   rw [← RD (j:=j) (by omega)]
   exact ⟨_,rfl,q⟩
  clear q hL pP pS
  go_wp2
  go_ret
  exact ⟨HG.out,bw⟩

end Go.Proofs.YtnffeclgboomoaaGreatDoor
