/-
  Joined: VisN.
-/
import Derived.Test.YtgmhhegckcionaaGreatDoorF39

namespace Go.Proofs.YtgmhhegckcionaaGreatDoor
set_option maxRecDepth 100000
set_option maxHeartbeats 16000000
open Go.RowKit
set_option linter.unusedVariables false
set_option linter.unusedSimpArgs false

def G5 (rows:List (List I3)) (cap f:Nat):Prop:=∀ (m:V4) (st:Zy),Zc m=true→ZR rows m<f→UpR st.1→(∀ e ∈ st.1,YL e)→st.2+f≤st.1.length+100→∀ (w:World) (a9:Option Addr) (cs:Sl × Sl × Sl) (s:S4) (a:Option Addr) (n c:Nat),Yi w a9 cs rows→Xd w s m→Y6 w a n c st.1→(a=none→c=0) →
  Calls Tryz.prog 78 #[.agg #[.slice a9 3 cap],s.val,.agg #[.slice a n c],.int .i64 (st.2:Int)] w fun x w'=>Vt x w' w.heap.size a n c (ZG rows f m st)∧Below w.heap.size w w'
def Gm (R:E3 × Zy × Bool):E3 × Zy × Bool:=if R.2.2=true then (if R.2.1.1.length=2000 then (e3d,R.2.1,false) else (R.1,(XE R.2.1.1 R.1,R.2.1.2),true)) else (e3d,R.2.1,false)
theorem D5 (st:Zy) (e:E3):Gm (e,st,false)=(e3d,st,false):=rfl
theorem Gn {st:Zy} {e:E3} (h:st.1.length=2000):Gm (e,st,true)=(e3d,st,false):=by unfold Gm;rw [if_pos rfl,if_pos h]
theorem D6 {st:Zy} {e:E3} (h:¬ st.1.length=2000):Gm (e,st,true)=(e,(XE st.1 e,st.2),true):=by unfold Gm;rw [if_pos rfl,if_neg h]
def CM (V W:World) (e:E3) (s15:Value):Prop:=∃ (s:Sl2) (Y:Nat),s15=.pointer (some ⟨Y,0,none⟩)∧Blk W Y 45 (YI e.1 s)∧YK W s e∧Below V.heap.size V W∧V.heap.size≤Y
theorem PN {e:E3} (h:YL e) (hk:e.1.size≤maxLen):e.fits:=⟨hk,fun x hx=>Wg (h.2.1 x hx),fun x hx=>Mb (h.2.2.2 x hx)⟩
theorem Hu {m:V4} (hs:Zc m=true):(Zt m).size≤maxLen:=by rw [X0 hs];unfold maxLen;omega
def CN (V W:World) (z:V4) (s18:Value):Prop:=∃ (t:S4) (Y:Nat),s18=.pointer (some ⟨Y,0,none⟩)∧Blk W Y 88 [.slice t.1.1 t.1.2.1 t.1.2.2,.slice t.2.1.1 t.2.1.2.1 t.2.1.2.2,.slice t.2.2.1.1 t.2.2.1.2.1 t.2.2.1.2.2,.slice t.2.2.2.1 t.2.2.2.2.1 t.2.2.2.2.2]∧Xd W t z∧Below V.heap.size V W
structure CP (rows:List (List I3)) (f:Nat) (m:V4) (R:E3 × Zy × Bool) (a9:Option Addr) (cap:Nat) (t:S4) (w:World) (Y:Nat) (wr:World) (s3:Value) (i:Nat) (e:E3) (st:Zy) (q:Sl2) (a0:Option Addr) (n0 c0:Nat) (a:Option Addr) (n c:Nat):Prop where
 eq:Yo (ZG rows f) ((nxM rows m).drop i) e st=R
 cnt:s3=.int .i64 (st.2:Int)
 bw:Below w.heap.size w wr
 pP:Blk wr w.heap.size 25 [.slice a9 3 cap]
 pS:Blk wr (w.heap.size+1) 88 [.slice t.1.1 t.1.2.1 t.1.2.2,.slice t.2.1.1 t.2.1.2.1 t.2.1.2.2,.slice t.2.2.1.1 t.2.2.1.2.1 t.2.2.1.2.2,.slice t.2.2.2.1 t.2.2.2.2.1 t.2.2.2.2.2]
 pM:Blk wr (w.heap.size+1+1) 33 [.slice a n c]
 pE:Blk wr (w.heap.size+1+1+1) 45 [.string ⟨#[]⟩,.slice none 0 0,.slice none 0 0]
 pR:Blk wr (w.heap.size+1+1+1+1) 33 [.slice none 0 0]
 pX:Blk wr Y 45 [.string e.1,.slice q.1.1 q.1.2.1 q.1.2.2,.slice q.2.1 q.2.2.1 q.2.2.2]
 hM:YK wr q e
 hA:Y6 wr a n c st.1
 nil:a=none→c=0
 o2:ZH a n (w.heap.size+1+1)
 o3:ZH a n (w.heap.size+1+1+1)
 o4:ZH a n (w.heap.size+1+1+1+1)
 oY:ZH a n Y
 up:UpR st.1
 er:∀ x ∈ st.1,YL x
 ee:YL e
 cn:st.2+f≤st.1.length+100
 hY:w.heap.size+5≤Y
 oA:(a=a0∧n=n0∧c=c0)∨∀ b o,a=some ⟨b,o,none⟩→w.heap.size≤b
theorem Tb (w:World) (b i:Nat) (v:Value):w.grownBy (w.setCell ⟨b,i,none⟩ v) (some b):=⟨rfl,rfl,rfl,by simp [World.setCell],fun k _ hk=>Below.heap_setCell w _ v k (fun e=>hk (by rw [e]))⟩
theorem NS {w:World} {B:Nat} {v:Value} {xs:List I3} (h:w.ownsRow B 103 3 v xs.length (Zn xs)) (hf:∀ x ∈ xs,I3.fits x):∃ a cap,v=.slice a xs.length cap∧Zr w a xs.length cap xs∧(a=none→cap=0):=by
 rcases h.2 with ⟨rfl,h0⟩ | ⟨g,cap,cur,hv,_⟩
 ·exact ⟨none,0,by rw [h0],⟨rfl,by omega,Nat.zero_le _,hf,.inl h0⟩,fun _=>rfl⟩
 subst hv
 exact ⟨_,_,rfl,Zr.of_owns h rfl hf rfl,(fun h=>by cases h)⟩
theorem Ma {w:World} {B:Nat} {v:Value} {xs:List Int} (h:w.ownsRow B 3 1 v xs.length (xs.map (Value.int .i64))):∃ a cap,v=.slice a xs.length cap∧Yn .i64 w a xs.length cap xs∧(a=none→cap=0):=by
 rcases h.2 with ⟨rfl,h0⟩ | ⟨g,cap,cur,hv,_⟩
 ·exact ⟨none,0,by rw [h0],⟨rfl,by omega,Nat.zero_le _,.inl h0⟩,fun _=>rfl⟩
 subst hv
 exact ⟨_,_,rfl,MU h,(fun h=>by cases h)⟩

theorem KW {rows:List (List I3)} {cap:Nat} (hp:Zf rows=true) {f:Nat} (ih:G5 rows cap f) (m:V4) (es:List E3) (nd:Nat) (hI:isE es (Zt m)=false) (h0:¬ es.length=2000) (hs:Zc m=true) (hf:ZR rows m<f+1) (hU:UpR es) (hE9:∀ e ∈ es,YL e) (hno:nd+(f+1)≤es.length+100) (w:World) (a9:Option Addr) (cs:Sl × Sl × Sl) (s:S4) (a:Option Addr) (n c:Nat) (hR:Yi w a9 cs rows) (h:Xd w s m) (hA:Y6 w a n c es) (hnil:a=none→c=0)
  (R:E3 × Zy × Bool) (hR0:Yo (ZG rows f) (nxM rows m) (Zt m,ZB rows m,Zx m) (es,nd+1)=R) :
  Calls Tryz.prog 78 #[.agg #[.slice a9 3 cap],s.val,.agg #[.slice a n c],.int .i64 (nd:Int)] w fun x w'=>Vt x w' w.heap.size a n c (Gm R)∧Below w.heap.size w w':=by
 obtain ⟨⟨t0a,t0n,t0c⟩,⟨t1a,t1n,t1c⟩,⟨t2a,t2n,t2c⟩,⟨t3a,t3n,t3c⟩⟩:=s
 have ut:S4.val ((t0a,t0n,t0c),(t1a,t1n,t1c),(t2a,t2n,t2c),(t3a,t3n,t3c))=.agg #[.slice t0a t0n t0c,.slice t1a t1n t1c,.slice t2a t2n t2c,.slice t3a t3n t3c]:=rfl
 have hl:=hA.1
 have hn2:n≤2000:=by have:=hU.few;omega
 have kK:=fun (W:World) (b:Below w.heap.size w W)=>Ri ((t0a,t0n,t0c),(t1a,t1n,t1c),(t2a,t2n,t2c),(t3a,t3n,t3c)) m W (h.below b) hs
 have kP:=fun (W:World) (b:Below w.heap.size w W)=>Vg a n c es (Zt m) W (hA.below b) hU
 rw [ut] at kK ⊢
 have bw:Below w.heap.size w (((((w.alloc (.cells #[.slice a9 3 cap] 25)).alloc (.cells #[.slice t0a t0n t0c,.slice t1a t1n t1c,.slice t2a t2n t2c,.slice t3a t3n t3c] 88)).alloc (.cells #[.slice a n c] 33)).alloc (.cells #[.string ⟨#[]⟩,.slice none 0 0,.slice none 0 0] 45)).alloc (.cells #[.slice none 0 0] 33)):=by go_grown
 have pP:Blk (((((w.alloc (.cells #[.slice a9 3 cap] 25)).alloc (.cells #[.slice t0a t0n t0c,.slice t1a t1n t1c,.slice t2a t2n t2c,.slice t3a t3n t3c] 88)).alloc (.cells #[.slice a n c] 33)).alloc (.cells #[.string ⟨#[]⟩,.slice none 0 0,.slice none 0 0] 45)).alloc (.cells #[.slice none 0 0] 33)) (w.heap.size) 25 [.slice a9 3 cap]:=Zl _ (Zl _ (Zl _ (Zl _ (Zj _ _ _ rfl))))
 have pS:Blk (((((w.alloc (.cells #[.slice a9 3 cap] 25)).alloc (.cells #[.slice t0a t0n t0c,.slice t1a t1n t1c,.slice t2a t2n t2c,.slice t3a t3n t3c] 88)).alloc (.cells #[.slice a n c] 33)).alloc (.cells #[.string ⟨#[]⟩,.slice none 0 0,.slice none 0 0] 45)).alloc (.cells #[.slice none 0 0] 33)) (w.heap.size+1) 88 [.slice t0a t0n t0c,.slice t1a t1n t1c,.slice t2a t2n t2c,.slice t3a t3n t3c]:=Zl _ (Zl _ (Zl _ (Zj _ _ _ (by simp))))
 have pM:Blk (((((w.alloc (.cells #[.slice a9 3 cap] 25)).alloc (.cells #[.slice t0a t0n t0c,.slice t1a t1n t1c,.slice t2a t2n t2c,.slice t3a t3n t3c] 88)).alloc (.cells #[.slice a n c] 33)).alloc (.cells #[.string ⟨#[]⟩,.slice none 0 0,.slice none 0 0] 45)).alloc (.cells #[.slice none 0 0] 33)) (w.heap.size+1+1) 33 [.slice a n c]:=Zl _ (Zl _ (Zj _ _ _ (by simp)))
 have pE:Blk (((((w.alloc (.cells #[.slice a9 3 cap] 25)).alloc (.cells #[.slice t0a t0n t0c,.slice t1a t1n t1c,.slice t2a t2n t2c,.slice t3a t3n t3c] 88)).alloc (.cells #[.slice a n c] 33)).alloc (.cells #[.string ⟨#[]⟩,.slice none 0 0,.slice none 0 0] 45)).alloc (.cells #[.slice none 0 0] 33)) (w.heap.size+1+1+1) 45 [.string ⟨#[]⟩,.slice none 0 0,.slice none 0 0]:=Zl _ (Zj _ _ _ (by simp))
 have pR:Blk (((((w.alloc (.cells #[.slice a9 3 cap] 25)).alloc (.cells #[.slice t0a t0n t0c,.slice t1a t1n t1c,.slice t2a t2n t2c,.slice t3a t3n t3c] 88)).alloc (.cells #[.slice a n c] 33)).alloc (.cells #[.string ⟨#[]⟩,.slice none 0 0,.slice none 0 0] 45)).alloc (.cells #[.slice none 0 0] 33)) (w.heap.size+1+1+1+1) 33 [.slice none 0 0]:=Zj _ _ _ (by simp)
 have hszU:w.heap.size+5≤(((((w.alloc (.cells #[.slice a9 3 cap] 25)).alloc (.cells #[.slice t0a t0n t0c,.slice t1a t1n t1c,.slice t2a t2n t2c,.slice t3a t3n t3c] 88)).alloc (.cells #[.slice a n c] 33)).alloc (.cells #[.string ⟨#[]⟩,.slice none 0 0,.slice none 0 0] 45)).alloc (.cells #[.slice none 0 0] 33)).heap.size:=by simp
 have hnn:¬ n=2000:=by omega
 have hne:((n:Int) == 2000)=false:=by simp;omega
 have hnd:nd≤3000:=by omega
 have hw1:IntKind.i64.wrap ((nd:Int)+1)=((nd+1:Nat):Int):=by rw [IntKind.wrap_i64];omega
 rw [hI] at kP
 have of2:ZH a n (w.heap.size+1+1):=Zv hA (by omega)
 have of8:ZH a n (w.heap.size+1+1+1):=Zv hA (by omega)
 have of9:ZH a n (w.heap.size+1+1+1+1):=Zv hA (by omega)
 have kL:=fun (W:World) (b:Below w.heap.size w W)=>M2 (cap:=cap) (hR.below b) (h.below b) hp hs
 have kF:=fun (W:World) (b:Below w.heap.size w W)=>M3 ((t0a,t0n,t0c),(t1a,t1n,t1c),(t2a,t2n,t2c),(t3a,t3n,t3c)) m W (h.below b) hs
 have kE:=fun (W:World) (b:Below w.heap.size w W)=>VV a9 3 cap rows ((t0a,t0n,t0c),(t1a,t1n,t1c),(t2a,t2n,t2c),(t3a,t3n,t3c)) m cs W rfl (hR.below b) (h.below b) hp hs
 rw [ut] at kL kF kE
 have eR0:=Qq hp hs (Zt m)
 have eF0:=PN eR0 (Hu hs)
 generalize hkey:Zt m=key at *
 clear hI
 generalize Yf es key=p at *
 go_enter Tryz.func78,Tryz.ntmps78
 go_wp2_with fail
 generalize (((((w.alloc (.cells #[.slice a9 3 cap] 25)).alloc (.cells #[.slice t0a t0n t0c,.slice t1a t1n t1c,.slice t2a t2n t2c,.slice t3a t3n t3c] 88)).alloc (.cells #[.slice a n c] 33)).alloc (.cells #[.string ⟨#[]⟩,.slice none 0 0,.slice none 0 0] 45)).alloc (.cells #[.slice none 0 0] 33))=U0 at *
 go_wp2_with (refine Zd rfl 88 _ rfl (w.heap.size+1) rfl pS _ Tryz.underlying88 rfl (by kernel_rfl) ?_)
 refine (kK _ bw).mono ?_
 rintro x w1 ⟨rfl,hb⟩
 replace bw:=Zo bw hb
 replace hszU:=Nat.le_trans hszU hb.size
 replace pP:=pP.below hb
 replace pS:=pS.below hb
 replace pM:=pM.below hb
 replace pE:=pE.below hb
 replace pR:=pR.below hb
 clear hb kK
 go_wp2_with (refine Zd rfl 33 _ rfl (w.heap.size+1+1) rfl pM _ Tryz.underlying33 rfl (by kernel_rfl) ?_)
 refine (kP _ bw).mono ?_
 rintro x w2 ⟨rfl,hb⟩
 replace bw:=Zo bw hb
 replace hszU:=Nat.le_trans hszU hb.size
 replace pP:=pP.below hb
 replace pS:=pS.below hb
 replace pM:=pM.below hb
 replace pE:=pE.below hb
 replace pR:=pR.below hb
 clear hb kP
 have hA9:=hA.below bw
 have g0:=pM.cell 0
 simp only [List.getElem?_cons_zero] at g0
 clear hne
 have hne:((n:Int) == 2000)=false:=by simp;omega
 go_wp2_with fail
 go_cut [15] from 49 to 55 (fun s15 W=>CM w2 W (key,ZB rows m,Zx m) s15)
 ·refine wp_region_held_drew (S:=(fun w'=>w'.cell? ⟨w.heap.size,0,none⟩=some (.slice a9 3 cap)∧w'.cell? ⟨w.heap.size+1,0,none⟩=some (.slice t0a t0n t0c)∧w'.cell? ⟨w.heap.size+1,1,none⟩=some (.slice t1a t1n t1c)∧w'.cell? ⟨w.heap.size+1,2,none⟩=some (.slice t2a t2n t2c)∧w'.cell? ⟨w.heap.size+1,3,none⟩=some (.slice t3a t3n t3c))) (by kernel_rfl) ⟨by simpa using pP.cell 0,by simpa using pS.cell 0,by simpa using pS.cell 1,by simpa using pS.cell 2,by simpa using pS.cell 3⟩ (fun hS0=>?_)
  refine tkv 0 49 (.string key) ?_
  refine tkv 1 50 (.agg #[.slice a9 3 cap]) ?_
  refine tkv 2 51 (.agg #[.slice t0a t0n t0c,.slice t1a t1n t1c,.slice t2a t2n t2c,.slice t3a t3n t3c]) ?_
  refine tkv 4 53 (.agg #[.slice t0a t0n t0c,.slice t1a t1n t1c,.slice t2a t2n t2c,.slice t3a t3n t3c]) ?_
  have bd:Below w2.heap.size w2 w2.drew:=by go_grown
  replace bw:=Zo bw bd
  generalize hV0:w2.drew=V0 at *
  have bV:Below w2.heap.size w2 V0:=bd
  clear bd hV0
  refine wpAnyH_ready (rs:=[3,7]) (by kernel_rfl) (by simp) ?_
  refine AllReadyH.cons (o:=⟨some 52,_,_,_,_,_⟩) rfl (fun K hK=>?_) (AllReadyH.cons (o:=⟨some 15,_,_,_,_,_⟩) rfl (fun K hK=>?_) AllReadyH.nil)
  ·have kx:=kL V0 bw
   go_simp
   refine kx.mono ?_
   rintro e V1 ⟨⟨vb,rfl,hl⟩,hb⟩
   go_wp2_with fail
   refine hK.out _ _ ⟨Za hb _ _ hS0.1,Za hb _ _ hS0.2.1,Za hb _ _ hS0.2.2.1,Za hb _ _ hS0.2.2.2.1,Za hb _ _ hS0.2.2.2.2⟩ (fun hS0=>?_)
   clear hK kx
   replace hl:=Yz hl bV.size
   replace bw:=Zo bw hb
   replace bV:=Zo bV hb
   clear hb
   try simp only [Act.put,tka,tkb,tkc]
   refine wpAnyH_ready (rs:=[5,7]) (by kernel_rfl) (by simp) ?_
   refine AllReadyH.cons (o:=⟨some 54,_,_,_,_,_⟩) rfl (fun K hK=>?_) (AllReadyH.cons (o:=⟨some 15,_,_,_,_,_⟩) rfl (fun K hK=>?_) AllReadyH.nil)
   ·have kx:=kF V1 bw
    go_simp
    refine kx.mono ?_
    rintro e V2 ⟨⟨vf,rfl,hk⟩,hb⟩
    go_wp2_with fail
    refine hK.out _ _ ⟨Za hb _ _ hS0.1,Za hb _ _ hS0.2.1,Za hb _ _ hS0.2.2.1,Za hb _ _ hS0.2.2.2.1,Za hb _ _ hS0.2.2.2.2⟩ (fun hS0=>?_)
    clear hK kx
    replace hk:=Yz hk bV.size
    replace hl:=Z1 hl hb
    replace bw:=Zo bw hb
    replace bV:=Zo bV hb
    clear hb
    try simp only [Act.put,tka,tkb,tkc]
    obtain ⟨⟨⟨q1a,q1n,q1c⟩,⟨q2a,q2n,q2c⟩⟩,rfl,rfl⟩:=(Wm.slices (e:=(key,ZB rows m,Zx m)) (B:=w2.heap.size) ⟨hl,hk⟩)
    simp only at hl hk
    refine tkv 6 55 (.agg #[.string key,.slice q1a q1n q1c,.slice q2a q2n q2c]) ?_
    refine tkr 7 15 (fun K hK=>?_)
    have hb:Below V2.heap.size V2 (V2.alloc (.cells #[.string ⟨#[]⟩,.slice none 0 0,.slice none 0 0] 45)):=by go_grown
    have pX:Blk (V2.alloc (.cells #[.string ⟨#[]⟩,.slice none 0 0,.slice none 0 0] 45)) V2.heap.size 45 [.string ⟨#[]⟩,.slice none 0 0,.slice none 0 0]:=Zj _ _ _ rfl
    have hY9:w2.heap.size≤V2.heap.size:=bV.size
    replace hl:=Z1 hl hb
    replace hk:=Z1 hk hb
    go_simp
    refine hK.out _ _ ⟨Za hb _ _ hS0.1,Za hb _ _ hS0.2.1,Za hb _ _ hS0.2.2.1,Za hb _ _ hS0.2.2.2.1,Za hb _ _ hS0.2.2.2.2⟩ (fun hS0=>?_)
    clear hK
    replace bw:=Zo bw hb
    replace bV:=Zo bV hb
    clear hb
    generalize (V2.alloc (.cells #[.string ⟨#[]⟩,.slice none 0 0,.slice none 0 0] 45))=V3 at *
    generalize V2.heap.size=Y at *
    try simp only [Act.put,tka,tkb,tkc]
    refine tkz 8 (fun K hK=>?_)
    have hM9:=Wm.mem (s:=((q1a,q1n,q1c),(q2a,q2n,q2c))) (e:=(key,ZB rows m,Zx m)) (B:=w2.heap.size) ⟨hl,hk⟩ eF0
    refine Zq rfl 45 _ _ rfl Y [.string key,.slice q1a q1n q1c,.slice q2a q2n q2c] rfl rfl pX (by kernel_rfl) rfl rfl ?_
    intro V9 q9 g9
    refine hK.out _ _ ⟨Zp g9 hS0.1 (fun e=>by injection e with e9;dsimp only at e9;omega),Zp g9 hS0.2.1 (fun e=>by injection e with e9;dsimp only at e9;omega),Zp g9 hS0.2.2.1 (fun e=>by injection e with e9;dsimp only at e9;omega),Zp g9 hS0.2.2.2.1 (fun e=>by injection e with e9;dsimp only at e9;omega),Zp g9 hS0.2.2.2.2 (fun e=>by injection e with e9;dsimp only at e9;omega)⟩ (fun hS9=>?_)
    clear hK
    try simp only [Act.put,tka,tkb,tkc]
    refine wpAnyH_done (by kernel_rfl) ?_ _
    replace hM9:=hM9.box pX (Yd ⟨#[]⟩ ((none,0,0),(none,0,0))) g9
    replace bV:=bV.grown g9 bV.size (fun k hk=>by cases hk;omega)
    have pX9:=q9.out
    go_wp2_with fail
    go_meet
    case rel=>exact ⟨((q1a,q1n,q1c),(q2a,q2n,q2c)),Y,rfl,pX9,hM9,bV,hY9⟩
   have hb:Below V1.heap.size V1 (V1.alloc (.cells #[.string ⟨#[]⟩,.slice none 0 0,.slice none 0 0] 45)):=by go_grown
   have pX:Blk (V1.alloc (.cells #[.string ⟨#[]⟩,.slice none 0 0,.slice none 0 0] 45)) V1.heap.size 45 [.string ⟨#[]⟩,.slice none 0 0,.slice none 0 0]:=Zj _ _ _ rfl
   have hY9:w2.heap.size≤V1.heap.size:=bV.size
   replace hl:=Z1 hl hb
   go_simp
   refine hK.out _ _ ⟨Za hb _ _ hS0.1,Za hb _ _ hS0.2.1,Za hb _ _ hS0.2.2.1,Za hb _ _ hS0.2.2.2.1,Za hb _ _ hS0.2.2.2.2⟩ (fun hS0=>?_)
   clear hK
   replace bw:=Zo bw hb
   replace bV:=Zo bV hb
   clear hb
   generalize (V1.alloc (.cells #[.string ⟨#[]⟩,.slice none 0 0,.slice none 0 0] 45))=V4 at *
   generalize V1.heap.size=Y at *
   try simp only [Act.put,tka,tkb,tkc]
   refine tkr 5 54 (fun K hK=>?_)
   have kx:=kF V4 bw
   go_simp
   refine kx.mono ?_
   rintro e V5 ⟨⟨vf,rfl,hk⟩,hb⟩
   go_wp2_with fail
   refine hK.out _ _ ⟨Za hb _ _ hS0.1,Za hb _ _ hS0.2.1,Za hb _ _ hS0.2.2.1,Za hb _ _ hS0.2.2.2.1,Za hb _ _ hS0.2.2.2.2⟩ (fun hS0=>?_)
   clear hK kx
   replace hk:=Yz hk bV.size
   replace hl:=Z1 hl hb
   replace pX:=pX.below hb
   replace bw:=Zo bw hb
   replace bV:=Zo bV hb
   clear hb
   try simp only [Act.put,tka,tkb,tkc]
   obtain ⟨⟨⟨q1a,q1n,q1c⟩,⟨q2a,q2n,q2c⟩⟩,rfl,rfl⟩:=(Wm.slices (e:=(key,ZB rows m,Zx m)) (B:=w2.heap.size) ⟨hl,hk⟩)
   simp only at hl hk
   refine tkv 6 55 (.agg #[.string key,.slice q1a q1n q1c,.slice q2a q2n q2c]) ?_
   refine tkz 8 (fun K hK=>?_)
   have hM9:=Wm.mem (s:=((q1a,q1n,q1c),(q2a,q2n,q2c))) (e:=(key,ZB rows m,Zx m)) (B:=w2.heap.size) ⟨hl,hk⟩ eF0
   refine Zq rfl 45 _ _ rfl Y [.string key,.slice q1a q1n q1c,.slice q2a q2n q2c] rfl rfl pX (by kernel_rfl) rfl rfl ?_
   intro V9 q9 g9
   refine hK.out _ _ ⟨Zp g9 hS0.1 (fun e=>by injection e with e9;dsimp only at e9;omega),Zp g9 hS0.2.1 (fun e=>by injection e with e9;dsimp only at e9;omega),Zp g9 hS0.2.2.1 (fun e=>by injection e with e9;dsimp only at e9;omega),Zp g9 hS0.2.2.2.1 (fun e=>by injection e with e9;dsimp only at e9;omega),Zp g9 hS0.2.2.2.2 (fun e=>by injection e with e9;dsimp only at e9;omega)⟩ (fun hS9=>?_)
   clear hK
   try simp only [Act.put,tka,tkb,tkc]
   refine wpAnyH_done (by kernel_rfl) ?_ _
   replace hM9:=hM9.box pX (Yd ⟨#[]⟩ ((none,0,0),(none,0,0))) g9
   replace bV:=bV.grown g9 bV.size (fun k hk=>by cases hk;omega)
   have pX9:=q9.out
   go_wp2_with fail
   go_meet
   case rel=>exact ⟨((q1a,q1n,q1c),(q2a,q2n,q2c)),Y,rfl,pX9,hM9,bV,hY9⟩
  have hb:Below V0.heap.size V0 (V0.alloc (.cells #[.string ⟨#[]⟩,.slice none 0 0,.slice none 0 0] 45)):=by go_grown
  have pX:Blk (V0.alloc (.cells #[.string ⟨#[]⟩,.slice none 0 0,.slice none 0 0] 45)) V0.heap.size 45 [.string ⟨#[]⟩,.slice none 0 0,.slice none 0 0]:=Zj _ _ _ rfl
  have hY9:w2.heap.size≤V0.heap.size:=bV.size
  go_simp
  refine hK.out _ _ ⟨Za hb _ _ hS0.1,Za hb _ _ hS0.2.1,Za hb _ _ hS0.2.2.1,Za hb _ _ hS0.2.2.2.1,Za hb _ _ hS0.2.2.2.2⟩ (fun hS0=>?_)
  clear hK
  replace bw:=Zo bw hb
  replace bV:=Zo bV hb
  clear hb
  generalize (V0.alloc (.cells #[.string ⟨#[]⟩,.slice none 0 0,.slice none 0 0] 45))=V6 at *
  generalize V0.heap.size=Y at *
  try simp only [Act.put,tka,tkb,tkc]
  refine tkr 3 52 (fun K hK=>?_)
  have kx:=kL V6 bw
  go_simp
  refine kx.mono ?_
  rintro e V7 ⟨⟨vb,rfl,hl⟩,hb⟩
  go_wp2_with fail
  refine hK.out _ _ ⟨Za hb _ _ hS0.1,Za hb _ _ hS0.2.1,Za hb _ _ hS0.2.2.1,Za hb _ _ hS0.2.2.2.1,Za hb _ _ hS0.2.2.2.2⟩ (fun hS0=>?_)
  clear hK kx
  replace hl:=Yz hl bV.size
  replace pX:=pX.below hb
  replace bw:=Zo bw hb
  replace bV:=Zo bV hb
  clear hb
  try simp only [Act.put,tka,tkb,tkc]
  refine tkr 5 54 (fun K hK=>?_)
  have kx:=kF V7 bw
  go_simp
  refine kx.mono ?_
  rintro e V8 ⟨⟨vf,rfl,hk⟩,hb⟩
  go_wp2_with fail
  refine hK.out _ _ ⟨Za hb _ _ hS0.1,Za hb _ _ hS0.2.1,Za hb _ _ hS0.2.2.1,Za hb _ _ hS0.2.2.2.1,Za hb _ _ hS0.2.2.2.2⟩ (fun hS0=>?_)
  clear hK kx
  replace hk:=Yz hk bV.size
  replace hl:=Z1 hl hb
  replace pX:=pX.below hb
  replace bw:=Zo bw hb
  replace bV:=Zo bV hb
  clear hb
  try simp only [Act.put,tka,tkb,tkc]
  obtain ⟨⟨⟨q1a,q1n,q1c⟩,⟨q2a,q2n,q2c⟩⟩,rfl,rfl⟩:=(Wm.slices (e:=(key,ZB rows m,Zx m)) (B:=w2.heap.size) ⟨hl,hk⟩)
  simp only at hl hk
  refine tkv 6 55 (.agg #[.string key,.slice q1a q1n q1c,.slice q2a q2n q2c]) ?_
  refine tkz 8 (fun K hK=>?_)
  have hM9:=Wm.mem (s:=((q1a,q1n,q1c),(q2a,q2n,q2c))) (e:=(key,ZB rows m,Zx m)) (B:=w2.heap.size) ⟨hl,hk⟩ eF0
  refine Zq rfl 45 _ _ rfl Y [.string key,.slice q1a q1n q1c,.slice q2a q2n q2c] rfl rfl pX (by kernel_rfl) rfl rfl ?_
  intro V9 q9 g9
  refine hK.out _ _ ⟨Zp g9 hS0.1 (fun e=>by injection e with e9;dsimp only at e9;omega),Zp g9 hS0.2.1 (fun e=>by injection e with e9;dsimp only at e9;omega),Zp g9 hS0.2.2.1 (fun e=>by injection e with e9;dsimp only at e9;omega),Zp g9 hS0.2.2.2.1 (fun e=>by injection e with e9;dsimp only at e9;omega),Zp g9 hS0.2.2.2.2 (fun e=>by injection e with e9;dsimp only at e9;omega)⟩ (fun hS9=>?_)
  clear hK
  try simp only [Act.put,tka,tkb,tkc]
  refine wpAnyH_done (by kernel_rfl) ?_ _
  replace hM9:=hM9.box pX (Yd ⟨#[]⟩ ((none,0,0),(none,0,0))) g9
  replace bV:=bV.grown g9 bV.size (fun k hk=>by cases hk;omega)
  have pX9:=q9.out
  go_wp2_with fail
  go_meet
  case rel=>exact ⟨((q1a,q1n,q1c),(q2a,q2n,q2c)),Y,rfl,pX9,hM9,bV,hY9⟩
 obtain ⟨⟨⟨q1a,q1n,q1c⟩,⟨q2a,q2n,q2c⟩⟩,Y,rfl,pX,hM,bx,hY⟩:=hcut
 unfold YI at pX
 simp only at pX
 replace bw:=Zo bw bx
 replace pP:=pP.below bx
 replace pS:=pS.below bx
 replace pM:=pM.below bx
 replace pE:=pE.below bx
 replace pR:=pR.below bx
 replace hA9:=hA9.below bx
 have hY5:w.heap.size+5≤Y:=by omega
 have oY:ZH a n Y:=Zv hA (by omega)
 clear bx hY hszU g0 kL kF eF0
 generalize wc=U1 at *
 have kEx:=kE U1 bw
 clear kE
 go_wp2_with (first | refine Zd rfl 25 _ rfl (w.heap.size) rfl pP _ Tryz.underlying25 rfl (by kernel_rfl) ?_ | refine Zd rfl 88 _ rfl (w.heap.size+1) rfl pS _ Tryz.underlying88 rfl (by kernel_rfl) ?_)
 refine kEx.mono ?_
 rintro e w7 ⟨⟨⟨ea,en,ec⟩,rfl,hE⟩,hb⟩
 have hLn:(Zm rows m 3).length=en:=by have:=hE.1;simpa using this
 have hn3:en≤3:=by rw [← hLn];exact YM rows m 3
 have hE7:=hE.ints
 replace bw:=Zo bw hb
 replace pP:=pP.below hb
 replace pS:=pS.below hb
 replace pM:=pM.below hb
 replace pE:=pE.below hb
 replace pR:=pR.below hb
 replace pX:=pX.below hb
 replace hM:=hM.below hb
 replace hA9:=hA9.below hb
 have st0:CP rows f m R a9 cap ((t0a,t0n,t0c),(t1a,t1n,t1c),(t2a,t2n,t2c),(t3a,t3n,t3c)) w Y w7 (.int .i64 ((nd+1:Nat):Int)) 0 (key,ZB rows m,Zx m) (es,nd+1) ((q1a,q1n,q1c),(q2a,q2n,q2c)) a n c a n c:=⟨hR0,rfl,bw,pP,pS,pM,pE,pR,pX,hM,hA9,hnil,of2,of8,of9,oY,hU,hE9,eR0,by simp;omega,hY5,.inl ⟨rfl,rfl,rfl⟩⟩
 clear hb kEx hE bw pP pS pM pE pR pX hM hA9 of2 of8 of9 oY hU hE9 eR0 hR0 hno hl hn2 hnn hnd
 have HLN:Hid ((Zm rows m 3).length=en):=hLn
 clear hLn
 go_wp2_with fail
 go_loopw [3,17] (fun s3 s17 wr=>∃ (i:Nat) (e:E3) (st:Zy) (q:Sl2) (a2:Option Addr) (n2 c2:Nat),s17=.int .i64 i∧i≤en∧Below w7.heap.size w7 w7∧CP rows f m R a9 cap ((t0a,t0n,t0c),(t1a,t1n,t1c),(t2a,t2n,t2c),(t3a,t3n,t3c)) w Y wr s3 i e st q a n c a2 n2 c2∧Yn .i64 wr ea en ec (Zm rows m 3)) (fun _ s17 _=>en - (Go.RowKit.intOf s17).toNat)
 case atStart=>exact ⟨0,_,_,_,_,_,_,rfl,Nat.zero_le _,Below.refl _ _,st0,hE7⟩
 case round =>
  clear st0 hE7 hA hnil h0 hne
  obtain ⟨i,e,⟨es2,nd2⟩,⟨⟨p1a,p1n,p1c⟩,⟨p2a,p2n,p2c⟩⟩,a2,n2,c2,rfl,hin,_,hOn,hEI⟩:=hrel
  obtain ⟨heq,hcnt,bw,pP,pS,pM,pE,pR,pX,hM,hA,hnil,o2,o3,o4,oY,up,er,ee,cn,hY,oA⟩:=hOn
  obtain ⟨ek,eb,ez⟩:=e
  simp only at heq hcnt pP pS pM pE pR pX hM hA up er ee cn
  subst hcnt
  by_cases hlt:i<en
  ·have hlt3:(i:Int)<(en:Int):=by omega
   have hkj:(Zm rows m 3)[i]?=some ((Zm rows m 3).getD i 0):=by rw [List.getD,List.getElem?_eq_getElem (by rw [HLN.out];omega)];rfl
   have hz:=Xe (List.mem_of_getElem? hkj)
   obtain ⟨h0k,h2k,hd,_⟩:=XB hz
   have hdr:(nxM rows m).drop i=((Zm rows m 3).getD i 0,(goM rows m ((Zm rows m 3).getD i 0)).1)::(nxM rows m).drop (i+1):=by
    unfold nxM
    obtain ⟨h1,h2⟩:=List.getElem?_eq_some_iff.1 hkj
    rw [← List.map_drop,← List.map_drop,List.drop_eq_getElem_cons h1,h2]
    rfl
   obtain ⟨k,hk⟩:∃ k:Nat,(Zm rows m 3).getD i 0=(k:Int):=⟨_,(Int.toNat_of_nonneg h0k).symm⟩
   obtain ⟨eb9,eo,rfl,hc,hlb⟩:=Uv hEI (show i<en from hlt)
   rw [hk] at hkj hz hd h0k h2k hc hdr
   rw [Int.toNat_natCast] at hd
   have hk3:k<3:=by omega
   clear hk hlb
   have hx:=Vm hp hs hz
   have hlx:=TH hp hs hz
   rw [hdr] at heq
   unfold Yo at heq
   have kI:=ih (goM rows m (k:Int)).1 (es2,nd2) hx (by omega) up er cn
   have hvs:=WK hp f (goM rows m (k:Int)).1 (es2,nd2) hx up
   have hve:=Qe hp f (goM rows m (k:Int)).1 (es2,nd2) hx er
   have kP:=fun (W:World) (b:Below w.heap.size w W)=>QF (cap:=cap) rfl (hR.below b) (h.below b) hp hs hk3 hd
   rw [← Sv] at kP
   have ut:S4.val ((t0a,t0n,t0c),(t1a,t1n,t1c),(t2a,t2n,t2c),(t3a,t3n,t3c))=.agg #[.slice t0a t0n t0c,.slice t1a t1n t1c,.slice t2a t2n t2c,.slice t3a t3n t3c]:=rfl
   rw [ut] at kP
   simp only at heq kI hvs hve
   generalize ZG rows f (goM rows m (k:Int)).1 (es2,nd2)=r at *
   have HEQ:Hid ((if r.2.2=true then Yo (ZG rows f) ((nxM rows m).drop (i+1)) (ek,ZK eb r.1.2.1,Yx (ez++r.1.2.2)) r.2.1 else (e3d,r.2.1,false))=R):=heq
   clear heq hdr hkj hz hd hlx
   generalize goM rows m (k:Int)=zf at *
   obtain ⟨z,fl⟩:=zf
   simp only at kP hx kI
   have hi0:(0:Int)≤(i:Int):=by omega
   go_wp2_with fail
   go_cut [18,19] from 59 to 103 (fun s18 s19 W=>CN wr W z s18)
   ·have hb9:Below wr.heap.size wr wr.drew:=by go_grown
    refine wp_region_held_drew (S:=(fun w'=>w'.cell? ⟨w.heap.size,0,none⟩=some (.slice a9 3 cap)∧w'.cell? ⟨w.heap.size+1,0,none⟩=some (.slice t0a t0n t0c)∧w'.cell? ⟨w.heap.size+1,1,none⟩=some (.slice t1a t1n t1c)∧w'.cell? ⟨w.heap.size+1,2,none⟩=some (.slice t2a t2n t2c)∧w'.cell? ⟨w.heap.size+1,3,none⟩=some (.slice t3a t3n t3c)∧w'.cell? ⟨eb9,eo+i,none⟩=some (.int .i64 (k:Int)))) (by kernel_rfl) ⟨by simpa using pP.cell 0,by simpa using pS.cell 0,by simpa using pS.cell 1,by simpa using pS.cell 2,by simpa using pS.cell 3,hc⟩ (fun hS0=>?_)
    refine tkv 0 66 (.agg #[.slice a9 3 cap]) ?_
    refine tkv 1 67 (.agg #[.slice t0a t0n t0c,.slice t1a t1n t1c,.slice t2a t2n t2c,.slice t3a t3n t3c]) ?_
    refine tkv 2 68 (.slice (some ⟨eb9,eo,none⟩) en ec) ?_
    refine tkv 3 69 (.int .i64 (i:Int)) ?_
    refine tkv 4 70 (.pointer (some ⟨eb9,eo+i,none⟩)) ?_
    refine tkv 5 71 (.int .i64 (k:Int)) ?_
    have bwr:=Zo bw hb9
    generalize wr.drew=V at *
    refine wpAnyH_ready (rs:=[6,10]) (by kernel_rfl) (by simp) ?_
    refine AllReadyH.cons (o:=⟨some 72,_,_,_,_,_⟩) rfl (fun K hK=>?_) (AllReadyH.cons (o:=⟨some 18,_,_,_,_,_⟩) rfl (fun K hK=>?_) AllReadyH.nil)
    ·have kPx:=kP V bwr
     go_simp
     refine kPx.mono ?_
     rintro e V1 ⟨⟨⟨⟨z0a,z0n,z0c⟩,⟨z1a,z1n,z1c⟩,⟨z2a,z2n,z2c⟩,⟨z3a,z3n,z3c⟩⟩,rfl,hO2⟩,hb1⟩
     have uz:S4.val ((z0a,z0n,z0c),(z1a,z1n,z1c),(z2a,z2n,z2c),(z3a,z3n,z3c))=.agg #[.slice z0a z0n z0c,.slice z1a z1n z1c,.slice z2a z2n z2c,.slice z3a z3n z3c]:=rfl
     rw [uz]
     clear uz
     go_wp2_with fail
     refine hK.out _ _ ⟨Za hb1 _ _ hS0.1,Za hb1 _ _ hS0.2.1,Za hb1 _ _ hS0.2.2.1,Za hb1 _ _ hS0.2.2.2.1,Za hb1 _ _ hS0.2.2.2.2.1,Za hb1 _ _ hS0.2.2.2.2.2⟩ (fun hS5=>?_)
     clear hK kPx
     try simp only [Act.put,tka,tkb,tkc]
     refine tkv 7 65 (.tuple #[.agg #[.slice z0a z0n z0c,.slice z1a z1n z1c,.slice z2a z2n z2c,.slice z3a z3n z3c],.int .i64 fl]) ?_
     refine tkv 8 73 (.agg #[.slice z0a z0n z0c,.slice z1a z1n z1c,.slice z2a z2n z2c,.slice z3a z3n z3c]) ?_
     refine tkv 9 74 (.int .i64 fl) ?_
     refine tkr 10 18 (fun K hK=>?_)
     have hb2:Below V1.heap.size V1 (V1.alloc (.cells #[.slice none 0 0,.slice none 0 0,.slice none 0 0,.slice none 0 0] 88)):=by go_grown
     have pZ:Blk (V1.alloc (.cells #[.slice none 0 0,.slice none 0 0,.slice none 0 0,.slice none 0 0] 88)) V1.heap.size 88 [.slice none 0 0,.slice none 0 0,.slice none 0 0,.slice none 0 0]:=Zj _ _ _ rfl
     replace hO2:=hO2.below hb2
     have hbA:=Zo hb1 hb2
     have hYV:V.heap.size≤V1.heap.size:=hb1.size
     go_simp
     refine hK.out _ _ ⟨Za hbA _ _ hS0.1,Za hbA _ _ hS0.2.1,Za hbA _ _ hS0.2.2.1,Za hbA _ _ hS0.2.2.2.1,Za hbA _ _ hS0.2.2.2.2.1,Za hbA _ _ hS0.2.2.2.2.2⟩ (fun hS6=>?_)
     clear hK hb1 hb2
     generalize (V1.alloc (.cells #[.slice none 0 0,.slice none 0 0,.slice none 0 0,.slice none 0 0] 88))=V2 at *
     generalize V1.heap.size=Y9 at *
     try simp only [Act.put,tka,tkb,tkc]
     refine tkz 11 (fun K hK=>?_)
     refine Zq rfl 88 _ _ rfl Y9 [.slice z0a z0n z0c,.slice z1a z1n z1c,.slice z2a z2n z2c,.slice z3a z3n z3c] rfl rfl pZ (by kernel_rfl) rfl rfl ?_
     intro V8 pX8 g8
     replace hO2:=hO2.kept9 g8 pZ (by decide)
     have hbig:=hbA.grown g8 hbA.size (fun q hq=>by cases hq;exact hYV)
     refine hK.out _ _ ⟨Za hbig _ _ hS0.1,Za hbig _ _ hS0.2.1,Za hbig _ _ hS0.2.2.1,Za hbig _ _ hS0.2.2.2.1,Za hbig _ _ hS0.2.2.2.2.1,Za hbig _ _ hS0.2.2.2.2.2⟩ (fun hS7=>?_)
     clear hK g8 hbA hYV
     have pZ8:=pX8.out
     clear pX8 pZ
     try simp only [Act.put,tka,tkb,tkc]
     refine tkv 12 19 (.int .i64 fl) ?_
     refine wpAnyH_done (by kernel_rfl) ?_ _
     go_wp2_with fail
     go_meet
     case rel=>exact ⟨((z0a,z0n,z0c),(z1a,z1n,z1c),(z2a,z2n,z2c),(z3a,z3n,z3c)),Y9,rfl,pZ8,hO2.mem (YC hx).1,Zo hb9 hbig⟩
    have hb1:Below V.heap.size V (V.alloc (.cells #[.slice none 0 0,.slice none 0 0,.slice none 0 0,.slice none 0 0] 88)):=by go_grown
    have pZ:Blk (V.alloc (.cells #[.slice none 0 0,.slice none 0 0,.slice none 0 0,.slice none 0 0] 88)) V.heap.size 88 [.slice none 0 0,.slice none 0 0,.slice none 0 0,.slice none 0 0]:=Zj _ _ _ rfl
    have hYV:V.heap.size≤V.heap.size:=Nat.le_refl _
    go_simp
    refine hK.out _ _ ⟨Za hb1 _ _ hS0.1,Za hb1 _ _ hS0.2.1,Za hb1 _ _ hS0.2.2.1,Za hb1 _ _ hS0.2.2.2.1,Za hb1 _ _ hS0.2.2.2.2.1,Za hb1 _ _ hS0.2.2.2.2.2⟩ (fun hS6=>?_)
    clear hK
    have kPx:=kP _ (Zo bwr hb1)
    generalize (V.alloc (.cells #[.slice none 0 0,.slice none 0 0,.slice none 0 0,.slice none 0 0] 88))=V2 at *
    obtain ⟨Y9,hY9⟩:∃ Y9,Y9=V.heap.size:=⟨_,rfl⟩
    rw [← hY9] at pZ hYV ⊢
    replace hYV:V.heap.size≤Y9:=by omega
    clear hY9
    try simp only [Act.put,tka,tkb,tkc]
    refine tkr 6 72 (fun K hK=>?_)
    go_simp
    refine kPx.mono ?_
    rintro e V3 ⟨⟨⟨⟨z0a,z0n,z0c⟩,⟨z1a,z1n,z1c⟩,⟨z2a,z2n,z2c⟩,⟨z3a,z3n,z3c⟩⟩,rfl,hO2⟩,hb2⟩
    have uz:S4.val ((z0a,z0n,z0c),(z1a,z1n,z1c),(z2a,z2n,z2c),(z3a,z3n,z3c))=.agg #[.slice z0a z0n z0c,.slice z1a z1n z1c,.slice z2a z2n z2c,.slice z3a z3n z3c]:=rfl
    rw [uz]
    clear uz
    go_wp2_with fail
    have hbA:=Zo hb1 hb2
    replace pZ:=pZ.below hb2
    refine hK.out _ _ ⟨Za hbA _ _ hS0.1,Za hbA _ _ hS0.2.1,Za hbA _ _ hS0.2.2.1,Za hbA _ _ hS0.2.2.2.1,Za hbA _ _ hS0.2.2.2.2.1,Za hbA _ _ hS0.2.2.2.2.2⟩ (fun hS5=>?_)
    clear hK kPx hb1 hb2
    try simp only [Act.put,tka,tkb,tkc]
    refine tkv 7 65 (.tuple #[.agg #[.slice z0a z0n z0c,.slice z1a z1n z1c,.slice z2a z2n z2c,.slice z3a z3n z3c],.int .i64 fl]) ?_
    refine tkv 8 73 (.agg #[.slice z0a z0n z0c,.slice z1a z1n z1c,.slice z2a z2n z2c,.slice z3a z3n z3c]) ?_
    refine tkv 9 74 (.int .i64 fl) ?_
    refine tkz 11 (fun K hK=>?_)
    refine Zq rfl 88 _ _ rfl Y9 [.slice z0a z0n z0c,.slice z1a z1n z1c,.slice z2a z2n z2c,.slice z3a z3n z3c] rfl rfl pZ (by kernel_rfl) rfl rfl ?_
    intro V8 pX8 g8
    replace hO2:=hO2.kept9 g8 pZ (by decide)
    have hbig:=hbA.grown g8 hbA.size (fun q hq=>by cases hq;exact hYV)
    refine hK.out _ _ ⟨Za hbig _ _ hS0.1,Za hbig _ _ hS0.2.1,Za hbig _ _ hS0.2.2.1,Za hbig _ _ hS0.2.2.2.1,Za hbig _ _ hS0.2.2.2.2.1,Za hbig _ _ hS0.2.2.2.2.2⟩ (fun hS7=>?_)
    clear hK g8 hbA hYV
    have pZ8:=pX8.out
    clear pX8 pZ
    try simp only [Act.put,tka,tkb,tkc]
    refine tkv 12 19 (.int .i64 fl) ?_
    refine wpAnyH_done (by kernel_rfl) ?_ _
    go_wp2_with fail
    go_meet
    case rel=>exact ⟨((z0a,z0n,z0c),(z1a,z1n,z1c),(z2a,z2n,z2c),(z3a,z3n,z3c)),Y9,rfl,pZ8,hO2.mem (YC hx).1,Zo hb9 hbig⟩
   obtain ⟨⟨⟨z0a,z0n,z0c⟩,⟨z1a,z1n,z1c⟩,⟨z2a,z2n,z2c⟩,⟨z3a,z3n,z3c⟩⟩,Y9,rfl,pZ,hZ,bx⟩:=hcut
   simp only at pZ
   replace bw:=Zo bw bx
   replace pP:=pP.below bx
   replace pS:=pS.below bx
   replace pM:=pM.below bx
   replace pE:=pE.below bx
   replace pR:=pR.below bx
   replace pX:=pX.below bx
   replace hM:=hM.below bx
   replace hA:=hA.below bx
   replace hEI:=hEI.below bx
   clear bx hc kP hlt3
   generalize wc=U2 at *
   have kIx:=kI U2 a9 cs ((z0a,z0n,z0c),(z1a,z1n,z1c),(z2a,z2n,z2c),(z3a,z3n,z3c)) a2 n2 c2 (hR.below bw) hZ hA hnil
   have uz:S4.val ((z0a,z0n,z0c),(z1a,z1n,z1c),(z2a,z2n,z2c),(z3a,z3n,z3c))=.agg #[.slice z0a z0n z0c,.slice z1a z1n z1c,.slice z2a z2n z2c,.slice z3a z3n z3c]:=rfl
   rw [uz] at kIx
   clear uz hZ kI
   go_wp2_with (first | refine Zd rfl 25 _ rfl (w.heap.size) rfl pP _ Tryz.underlying25 rfl (by kernel_rfl) ?_ | refine Zd rfl 88 _ rfl Y9 rfl pZ _ Tryz.underlying88 rfl (by kernel_rfl) ?_ | refine Zd rfl 33 _ rfl (w.heap.size+1+1) rfl pM _ Tryz.underlying33 rfl (by kernel_rfl) ?_)
   refine kIx.mono ?_
   rintro x w8 ⟨⟨⟨⟨f1a,f1n,f1c⟩,⟨f2a,f2n,f2c⟩⟩,a3,n3,c3,rfl,hF3,hA3,hn3,ho3⟩,hb⟩
   unfold ZW
   simp only
   have hYU:Y<U2.heap.size:=pX.lt
   have oo3:∀ q,ZH a2 n2 q→q<U2.heap.size→ZH a3 n3 q:=fun q h1 h2=>by
    rcases ho3 with ⟨rfl,rfl,rfl⟩ | h9
    ·exact h1
    exact ZH.new h9 h2
   have p2:=oo3 _ o2 (by omega)
   have p3:=oo3 _ o3 (by omega)
   have p4:=oo3 _ o4 (by omega)
   have pY:=oo3 _ oY hYU
   clear oo3 o2 o3 o4 oY kIx
   have bwU:=bw.size
   replace bw:=Zo bw hb
   replace pP:=pP.below hb
   replace pS:=pS.below hb
   replace pM:=pM.below hb
   replace pE:=pE.below hb
   replace pR:=pR.below hb
   replace pX:=pX.below hb
   replace hM:=hM.below hb
   replace hA:=hA.below hb
   replace hEI:=hEI.below hb
   have hbF:Below w8.heap.size w8 ((w8.alloc (.cells #[.string r.1.1,.slice f1a f1n f1c,.slice f2a f2n f2c] 45)).alloc (.cells #[.slice a3 n3 c3] 33)):=by go_grown
   have pF:Blk ((w8.alloc (.cells #[.string r.1.1,.slice f1a f1n f1c,.slice f2a f2n f2c] 45)).alloc (.cells #[.slice a3 n3 c3] 33)) w8.heap.size 45 [.string r.1.1,.slice f1a f1n f1c,.slice f2a f2n f2c]:=Zl _ (Zj _ _ _ rfl)
   have pG:Blk ((w8.alloc (.cells #[.string r.1.1,.slice f1a f1n f1c,.slice f2a f2n f2c] 45)).alloc (.cells #[.slice a3 n3 c3] 33)) (w8.heap.size+1) 33 [.slice a3 n3 c3]:=Zj _ _ _ (by simp)
   have q2:ZH a3 n3 w8.heap.size:=Zv hA3 (Nat.le_refl _)
   have q3:ZH a3 n3 (w8.heap.size+1):=Zv hA3 (by omega)
   have hY8:Y<w8.heap.size:=pX.lt
   clear hb
   replace bw:=Zo bw hbF
   replace pP:=pP.below hbF
   replace pS:=pS.below hbF
   replace pM:=pM.below hbF
   replace pE:=pE.below hbF
   replace pR:=pR.below hbF
   replace pX:=pX.below hbF
   replace hM:=hM.below hbF
   replace hA:=hA.below hbF
   replace hEI:=hEI.below hbF
   replace hF3:=hF3.below hbF
   replace hA3:=hA3.below hbF
   have oA3:(a3=a∧n3=n∧c3=c)∨∀ b o,a3=some ⟨b,o,none⟩→w.heap.size≤b:=by
    rcases ho3 with ⟨rfl,rfl,rfl⟩ | h9
    ·exact oA
    exact .inr (fun b o e=>Nat.le_trans bwU (h9 b o e))
   clear ho3 oA
   go_upto_region 15 with fail
   generalize ((w8.alloc (.cells #[.string r.1.1,.slice f1a f1n f1c,.slice f2a f2n f2c] 45)).alloc (.cells #[.slice a3 n3 c3] 33))=U3 at *
   have g1:=pG.cell 0
   have g2:=pM.cell 0
   have g3:=pM.frozen 0
   simp only [List.getElem?_cons_zero] at g1 g2
   go_upto_region 16 with fail
   have gr:=Tb U3 (w.heap.size+1+1) 0 (.slice a3 n3 c3)
   have nM:=YR (.slice a2 n2 c2) (by intro k z e;cases e)
   have hY3:Y<U3.heap.size:=pX.lt
   replace bw:=bw.grown gr bw.size (fun k hk=>by cases hk;omega)
   replace hM:=hM.box pM nM gr
   replace hF3:=hF3.box pM nM gr
   replace hA3:=hA3.box p2 pM nM gr
   replace hEI:=hEI.box pM nM gr
   replace pP:=pP.kept gr (by simp<;>omega)
   replace pS:=pS.kept gr (by simp<;>omega)
   replace pE:=pE.kept gr (by simp<;>omega)
   replace pR:=pR.kept gr (by simp<;>omega)
   replace pX:=pX.kept gr (by simp;omega)
   replace pF:=pF.kept gr (by simp;omega)
   replace pM:=pM.set 0 (.slice a3 n3 c3)
   simp only [List.set_cons_zero] at pM
   clear gr g1 g2 g3 pG nM hA
   generalize U3.setCell ⟨w.heap.size+1+1,0,none⟩ (.slice a3 n3 c3)=U4 at *
   cases hok:r.2.2
   ·have HR9:Hid (R=(e3d,r.2.1,false)):=by
     have h9:=HEQ.out
     rw [if_neg (by rw [hok];simp)] at h9
     exact h9.symm
    have hA9:=hA3
    have g0:=pM.cell 0
    simp only [List.getElem?_cons_zero] at g0
    clear HEQ hEI hF3 pF hM pX pP pS hA3
    go_wp2_with fail
    refine wp_region_held_drew (S:=(fun w'=>w'.cell? ⟨w.heap.size+1+1,0,none⟩=some (.slice a3 n3 c3))) (by kernel_rfl) g0 (fun hS0=>?_)
    refine tkv 0 89 (.agg #[.string ⟨#[]⟩,.slice none 0 0,.slice none 0 0]) ?_
    refine tkv 1 90 (.agg #[.slice a3 n3 c3]) ?_
    refine tkv 2 91 (.int .i64 (r.2.1.2:Int)) ?_
    have bd:Below U4.heap.size U4 U4.drew:=by go_grown
    replace bw:=Zo bw bd
    replace pE:=pE.below bd
    replace pR:=pR.below bd
    replace hA9:=hA9.below bd
    clear bd
    generalize U4.drew=V1 at *
    refine tkz 3 (fun K hK=>?_)
    refine Zq rfl 45 _ _ rfl (w.heap.size+1+1+1) [.string ⟨#[]⟩,.slice none 0 0,.slice none 0 0] rfl rfl pE (by kernel_rfl) rfl rfl ?_
    intro V2 q8 g8
    refine hK.out _ _ (Zp g8 hS0 (fun e=>by injection e with e9;dsimp only at e9;omega)) (fun hS1=>?_)
    clear hK
    try simp only [Act.put,tka,tkb,tkc]
    replace bw:=bw.grown g8 bw.size (fun k hk=>by cases hk;omega)
    replace hA9:=hA9.box p3 pE (Yd ⟨#[]⟩ ((none,0,0),(none,0,0))) g8
    replace pR:=pR.kept g8 (by simp)
    replace pE:=q8.out
    clear q8 g8
    refine tkz 4 (fun K hK=>?_)
    refine Zq rfl 33 _ _ rfl (w.heap.size+1+1+1+1) [.slice a3 n3 c3] rfl rfl pR (by kernel_rfl) rfl rfl ?_
    intro V3 q9 g9
    refine hK.out _ _ (Zp g9 hS1 (fun e=>by injection e with e9;dsimp only at e9;omega)) (fun hS2=>?_)
    clear hK
    try simp only [Act.put,tka,tkb,tkc]
    replace bw:=bw.grown g9 (Nat.le_trans (by omega) bw.size) (fun k hk=>by cases hk;omega)
    replace hA9:=hA9.box p4 pR (YR _ (by intro k z e;cases e)) g9
    replace pE:=pE.kept g9 (by simp)
    replace pR:=q9.out
    clear q9 g9
    refine tkv 5 10 (.int .i64 (r.2.1.2:Int)) ?_
    refine tkv 6 11 (.bool false) ?_
    refine wpAnyH_done (by kernel_rfl) ?_ _
    clear hS0 hS1 hS2
    have z0:=pE.cell 0
    have z1:=pE.cell 1
    have z2:=pE.cell 2
    have z3:=pR.cell 0
    simp only [List.getElem?_cons_zero,List.getElem?_cons_succ] at z0 z1 z2 z3
    go_wp2
    refine bodyPost_ret (by simp [results,Tryz.results78,go_sem,z0,z1,z2,z3];try rfl) rfl ?_
    rw [HR9.out,D5]
    exact ⟨Vt.mk9 (r:=(e3d,r.2.1,false)) ((none,0,0),(none,0,0)) (YK.zero9 _) hA9 hn3 oA3,bw⟩
   have HR9:Hid (Yo (ZG rows f) ((nxM rows m).drop (i+1)) (ek,ZK eb r.1.2.1,Yx (ez++r.1.2.2)) r.2.1=R):=by
    have h9:=HEQ.out
    rw [if_pos hok] at h9
    exact h9
   have hst:=hvs hok
   have hee:=ee.merge hve.1 ek
   have hek:=hM.1.1
   have hff:=PN hee hek
   have hbl1:=ee.bugs
   have hbl2:=hve.1.bugs
   have hfl1:=ee.foot
   have hfl2:=hve.1.foot
   simp only at hbl1 hfl1
   have hm1:=hM.2.1.1
   have hm2:=hF3.2.1.1
   have hm3:=hM.2.2.1.1
   have hm4:=hF3.2.2.1.1
   simp only at hm1 hm2 hm3 hm4
   have kB:=RK p1a p1n p1c eb f1a f1n f1c r.1.2.1 U4 hM.2.1 hF3.2.1 (by omega) (by omega)
   have hcn3:r.2.1.2+f≤r.2.1.1.length+100:=by have:=hst.2.2.2.2;simp only at this;omega
   have x1:=pX.cell 1
   have x2:=pX.cell 2
   have y1:=pF.cell 1
   have y2:=pF.cell 2
   simp only [List.getElem?_cons_zero,List.getElem?_cons_succ] at x1 x2 y1 y2
   clear HEQ
   go_wp2_with fail
   refine kB.mono ?_
   rintro x w9 ⟨⟨v9,rfl,hB9⟩,hb⟩
   clear kB x1 x2 y1 y2
   obtain ⟨n1a,n1c,rfl,hI9,hN9⟩:=NS hB9 (fun x hx=>hff.2.1 x hx)
   clear hB9
   replace bw:=Zo bw hb
   replace pP:=pP.below hb
   replace pS:=pS.below hb
   replace pM:=pM.below hb
   replace pE:=pE.below hb
   replace pR:=pR.below hb
   replace pX:=pX.below hb
   replace pF:=pF.below hb
   replace hM:=hM.below hb
   replace hF3:=hF3.below hb
   replace hA3:=hA3.below hb
   replace hEI:=hEI.below hb
   clear hb
   have fx1:=pX.frozen 1
   have x1:=pX.cell 1
   have x2:=pX.cell 2
   have y2:=pF.cell 2
   simp only [List.getElem?_cons_zero,List.getElem?_cons_succ] at x1 x2 y2
   have nX:=Yd ek ((p1a,p1n,p1c),(p2a,p2n,p2c))
   have gr:=Tb w9 Y 1 (.slice n1a (ZK eb r.1.2.1).length n1c)
   have hYw:Y<w9.heap.size:=pX.lt
   have hMi:=hM.2.2.1.box pX nX gr
   have hFi:=hF3.2.2.1.box pX nX gr
   simp only at hMi hFi
   have kF:=M4 p2a p2n p2c ez f2a f2n f2c r.1.2.2 (w9.setCell ⟨Y,1,none⟩ (.slice n1a (ZK eb r.1.2.1).length n1c)) hMi hFi (by omega) (by omega)
   go_wp2_with fail
   refine kF.mono ?_
   rintro x w10 ⟨⟨v10,rfl,hF10⟩,hb⟩
   clear kF x1 x2 y2 fx1 hFi
   obtain ⟨m1a,m1c,rfl,hI10,hN10⟩:=Ma hF10
   clear hF10
   replace bw:=bw.grown gr bw.size (fun k hk=>by cases hk;omega)
   replace hI9:=hI9.box pX nX gr
   replace hA3:=hA3.box pY pX nX gr
   replace hEI:=hEI.box pX nX gr
   replace pP:=pP.kept gr (by simp;omega)
   replace pS:=pS.kept gr (by simp;omega)
   replace pM:=pM.kept gr (by simp;omega)
   replace pE:=pE.kept gr (by simp;omega)
   replace pR:=pR.kept gr (by simp;omega)
   replace pX:=pX.set 1 (.slice n1a (ZK eb r.1.2.1).length n1c)
   simp only [List.set_cons_zero,List.set_cons_succ] at pX
   clear gr nX hMi hM hF3 pF
   replace bw:=Zo bw hb
   replace pP:=pP.below hb
   replace pS:=pS.below hb
   replace pM:=pM.below hb
   replace pE:=pE.below hb
   replace pR:=pR.below hb
   replace pX:=pX.below hb
   replace hI9:=hI9.below hb
   replace hA3:=hA3.below hb
   replace hEI:=hEI.below hb
   clear hb
   have fx2:=pX.frozen 2
   have x2:=pX.cell 2
   simp only [List.getElem?_cons_zero,List.getElem?_cons_succ] at x2
   have nX:=Yd ek ((n1a,(ZK eb r.1.2.1).length,n1c),(p2a,p2n,p2c))
   have gr:=Tb w10 Y 2 (.slice m1a (Yx (ez++r.1.2.2)).length m1c)
   replace bw:=bw.grown gr bw.size (fun k hk=>by cases hk;omega)
   replace hI9:=hI9.box pX nX gr
   replace hI10:=hI10.box pX nX gr
   replace hA3:=hA3.box pY pX nX gr
   replace hEI:=hEI.box pX nX gr
   replace pP:=pP.kept gr (by simp;omega)
   replace pS:=pS.kept gr (by simp;omega)
   replace pM:=pM.kept gr (by simp;omega)
   replace pE:=pE.kept gr (by simp;omega)
   replace pR:=pR.kept gr (by simp;omega)
   replace pX:=pX.set 2 (.slice m1a (Yx (ez++r.1.2.2)).length m1c)
   simp only [List.set_cons_zero,List.set_cons_succ] at pX
   clear gr nX
   have st9:CP rows f m R a9 cap ((t0a,t0n,t0c),(t1a,t1n,t1c),(t2a,t2n,t2c),(t3a,t3n,t3c)) w Y (w10.setCell ⟨Y,2,none⟩ (.slice m1a (Yx (ez++r.1.2.2)).length m1c)) (.int .i64 (r.2.1.2:Int)) (i+1) (ek,ZK eb r.1.2.1,Yx (ez++r.1.2.2)) r.2.1 ((n1a,(ZK eb r.1.2.1).length,n1c),(m1a,(Yx (ez++r.1.2.2)).length,m1c)) a n c a3 n3 c3:=⟨HR9.out,rfl,bw,pP,pS,pM,pE,pR,pX,⟨⟨hek,hN9,hN10⟩,hI9,hI10,hff.2.2⟩,hA3,hn3,p2,p3,p4,pY,hst.1,hve.2,hee,hcn3,hY,oA3⟩
   clear bw pP pS pM pE pR pX hI9 hI10 hA3 p2 p3 p4 pY
   go_wp2
   go_roundw
   case rel=>exact ⟨i+1,_,_,_,_,_,_,by go_num,by omega,Below.refl _ _,st9,hEI⟩
   case measure=>simp [Go.RowKit.intOf];omega
  have hge:¬ (i:Int)<(en:Int):=by omega
  have HR9:Hid (R=((ek,eb,ez),(es2,nd2),true)):=by
   have h9:=heq
   rw [List.drop_of_length_le (by unfold nxM;rw [List.length_map,HLN.out];omega)] at h9
   exact h9.symm
  have hl2:=hA.1
  have hn2k:n2≤2000:=by have:=up.few;omega
  have hsz:w.heap.size+5≤wr.heap.size:=by have:=pX.lt;omega
  have hA9:=hA
  have g0:=pM.cell 0
  simp only [List.getElem?_cons_zero] at g0
  clear heq pP pS hEI cn er ee hin
  by_cases hfull:n2=2000
  ·subst hfull
   clear hA hM pX
   go_wp2_with fail
   refine wp_region_held_drew (S:=(fun w'=>w'.cell? ⟨w.heap.size+1+1,0,none⟩=some (.slice a2 2000 c2))) (by kernel_rfl) g0 (fun hS0=>?_)
   refine tkv 0 108 (.agg #[.string ⟨#[]⟩,.slice none 0 0,.slice none 0 0]) ?_
   refine tkv 1 109 (.agg #[.slice a2 2000 c2]) ?_
   refine tkv 2 110 (.int .i64 (nd2:Int)) ?_
   have bd:Below wr.heap.size wr wr.drew:=by go_grown
   replace bw:=Zo bw bd
   replace pE:=pE.below bd
   replace pR:=pR.below bd
   replace hA9:=hA9.below bd
   clear bd
   generalize wr.drew=V1 at *
   refine tkz 3 (fun K hK=>?_)
   refine Zq rfl 45 _ _ rfl (w.heap.size+1+1+1) [.string ⟨#[]⟩,.slice none 0 0,.slice none 0 0] rfl rfl pE (by kernel_rfl) rfl rfl ?_
   intro V2 q8 g8
   refine hK.out _ _ (Zp g8 hS0 (fun e=>by injection e with e9;dsimp only at e9;omega)) (fun hS1=>?_)
   clear hK
   try simp only [Act.put,tka,tkb,tkc]
   replace bw:=bw.grown g8 bw.size (fun k hk=>by cases hk;omega)
   replace hA9:=hA9.box o3 pE (Yd ⟨#[]⟩ ((none,0,0),(none,0,0))) g8
   replace pR:=pR.kept g8 (by simp)
   replace pE:=q8.out
   clear q8 g8
   refine tkz 4 (fun K hK=>?_)
   refine Zq rfl 33 _ _ rfl (w.heap.size+1+1+1+1) [.slice a2 2000 c2] rfl rfl pR (by kernel_rfl) rfl rfl ?_
   intro V3 q9 g9
   refine hK.out _ _ (Zp g9 hS1 (fun e=>by injection e with e9;dsimp only at e9;omega)) (fun hS2=>?_)
   clear hK
   try simp only [Act.put,tka,tkb,tkc]
   replace bw:=bw.grown g9 (Nat.le_trans (by omega) bw.size) (fun k hk=>by cases hk;omega)
   replace hA9:=hA9.box o4 pR (YR _ (by intro k z e;cases e)) g9
   replace pE:=pE.kept g9 (by simp)
   replace pR:=q9.out
   clear q9 g9
   refine tkv 5 10 (.int .i64 (nd2:Int)) ?_
   refine tkv 6 11 (.bool false) ?_
   refine wpAnyH_done (by kernel_rfl) ?_ _
   clear hS0 hS1 hS2
   have z0:=pE.cell 0
   have z1:=pE.cell 1
   have z2:=pE.cell 2
   have z3:=pR.cell 0
   simp only [List.getElem?_cons_zero,List.getElem?_cons_succ] at z0 z1 z2 z3
   go_wp2
   refine bodyPost_ret (by simp [results,Tryz.results78,go_sem,z0,z1,z2,z3];try rfl) rfl ?_
   rw [HR9.out,Gn (by show es2.length=2000;omega)]
   exact ⟨Vt.mk9 (r:=(e3d,(es2,nd2),false)) ((none,0,0),(none,0,0)) (YK.zero9 _) hA9 hnil oA,bw⟩
  have hfe:((n2:Int) == 2000)=false:=by simp;omega
  have x0:=pX.cell 0
  have x1:=pX.cell 1
  have x2:=pX.cell 2
  simp only [List.getElem?_cons_zero,List.getElem?_cons_succ] at x0 x1 x2
  have kPut:=fun (W:World) (b:Below wr.heap.size wr W)=>Ku a2 n2 c2 es2 (ek,eb,ez) ((p1a,p1n,p1c),(p2a,p2n,p2c)) W (hA.below b) hnil up (hM.below b)
  unfold ZW at kPut
  simp only at kPut
  clear hA hA9
  go_wp2_with fail
  refine wp_region_held_drew (S:=(fun w'=>w'.cell? ⟨w.heap.size+1+1,0,none⟩=some (.slice a2 n2 c2)∧w'.cell? ⟨Y,0,none⟩=some (.string ek)∧w'.cell? ⟨Y,1,none⟩=some (.slice p1a p1n p1c)∧w'.cell? ⟨Y,2,none⟩=some (.slice p2a p2n p2c))) (by kernel_rfl) ⟨g0,x0,x1,x2⟩ (fun hS0=>?_)
  refine tkv 0 111 (.agg #[.string ek,.slice p1a p1n p1c,.slice p2a p2n p2c]) ?_
  refine tkv 1 112 (.agg #[.slice a2 n2 c2]) ?_
  refine tkv 2 113 (.agg #[.string ek,.slice p1a p1n p1c,.slice p2a p2n p2c]) ?_
  refine tkv 4 115 (.int .i64 (nd2:Int)) ?_
  have bd:Below wr.heap.size wr wr.drew:=by go_grown
  have kPx:=kPut _ bd
  replace bw:=Zo bw bd
  replace pE:=pE.below bd
  replace pR:=pR.below bd
  have hm9:=hM.below bd
  replace hsz:=Nat.le_trans hsz bd.size
  clear bd kPut
  generalize wr.drew=V at *
  refine tkr 3 114 (fun K hK=>?_)
  go_simp
  refine kPx.mono ?_
  rintro x W4 ⟨⟨a5,n5,c5,rfl,hA9,hn5,ho5⟩,hb⟩
  go_wp2_with fail
  refine hK.out _ _ ⟨Za hb _ _ hS0.1,Za hb _ _ hS0.2.1,Za hb _ _ hS0.2.2.1,Za hb _ _ hS0.2.2.2⟩ (fun hS0=>?_)
  clear hK kPx
  replace bw:=Zo bw hb
  replace pE:=pE.below hb
  replace pR:=pR.below hb
  replace hm9:=hm9.below hb
  clear hb
  try simp only [Act.put,tka,tkb,tkc]
  refine tkz 5 (fun K hK=>?_)
  refine Zq rfl 45 _ _ rfl (w.heap.size+1+1+1) [.string ek,.slice p1a p1n p1c,.slice p2a p2n p2c] rfl rfl pE (by kernel_rfl) rfl rfl ?_
  intro V2 q8 g8
  refine hK.out _ _ ⟨Zp g8 hS0.1 (fun e=>by injection e with e9;dsimp only at e9;omega),Zp g8 hS0.2.1 (fun e=>by injection e with e9;dsimp only at e9;omega),Zp g8 hS0.2.2.1 (fun e=>by injection e with e9;dsimp only at e9;omega),Zp g8 hS0.2.2.2 (fun e=>by injection e with e9;dsimp only at e9;omega)⟩ (fun hS1=>?_)
  clear hK
  try simp only [Act.put,tka,tkb,tkc]
  replace bw:=bw.grown g8 bw.size (fun k hk=>by cases hk;omega)
  replace hm9:=hm9.box pE (Yd ⟨#[]⟩ ((none,0,0),(none,0,0))) g8
  replace hA9:=hA9.box (ZH.new ho5 (by omega)) pE (Yd ⟨#[]⟩ ((none,0,0),(none,0,0))) g8
  replace pR:=pR.kept g8 (by simp)
  replace pE:=q8.out
  clear q8 g8
  refine tkz 6 (fun K hK=>?_)
  refine Zq rfl 33 _ _ rfl (w.heap.size+1+1+1+1) [.slice a5 n5 c5] rfl rfl pR (by kernel_rfl) rfl rfl ?_
  intro V3 q9 g9
  refine hK.out _ _ ⟨Zp g9 hS1.1 (fun e=>by injection e with e9;dsimp only at e9;omega),Zp g9 hS1.2.1 (fun e=>by injection e with e9;dsimp only at e9;omega),Zp g9 hS1.2.2.1 (fun e=>by injection e with e9;dsimp only at e9;omega),Zp g9 hS1.2.2.2 (fun e=>by injection e with e9;dsimp only at e9;omega)⟩ (fun hS2=>?_)
  clear hK
  try simp only [Act.put,tka,tkb,tkc]
  replace bw:=bw.grown g9 (Nat.le_trans (by omega) bw.size) (fun k hk=>by cases hk;omega)
  replace hm9:=hm9.box pR (YR _ (by intro k z e;cases e)) g9
  replace hA9:=hA9.box (ZH.new ho5 (by omega)) pR (YR _ (by intro k z e;cases e)) g9
  replace pE:=pE.kept g9 (by simp)
  replace pR:=q9.out
  clear q9 g9
  refine tkv 7 10 (.int .i64 (nd2:Int)) ?_
  refine tkv 8 11 (.bool true) ?_
  refine wpAnyH_done (by kernel_rfl) ?_ _
  clear hS0 hS1 hS2
  have z0:=pE.cell 0
  have z1:=pE.cell 1
  have z2:=pE.cell 2
  have z3:=pR.cell 0
  simp only [List.getElem?_cons_zero,List.getElem?_cons_succ] at z0 z1 z2 z3
  go_wp2
  refine bodyPost_ret (by simp [results,Tryz.results78,go_sem,z0,z1,z2,z3];try rfl) rfl ?_
  rw [HR9.out,D6 (by show ¬ es2.length=2000;omega)]
  exact ⟨Vt.mk9 (r:=((ek,eb,ez),(XE es2 (ek,eb,ez),nd2),true)) ((p1a,p1n,p1c),(p2a,p2n,p2c)) hm9 hA9 hn5 (.inr (fun b o e=>Nat.le_trans (by omega) (ho5 b o e))),bw⟩
theorem NG {rows:List (List I3)} {cap:Nat} (hp:Zf rows=true):∀ f,G5 rows cap f
 | 0=>fun m st hs hf=>by omega
 | f+1=>fun m st hs hf hU hE9 hno w a9 cs s a n c hR h hA hnil=>by
  obtain ⟨es,nd⟩:=st
  simp only at hU hE9 hno hA ⊢
  unfold ZG
  simp only
  by_cases hI:isE es (Zt m)=true
  ·rw [if_pos hI]
   exact LS (rows:=rows) m es nd hI hs hU w a9 s a n c h hA hnil
  rw [if_neg hI]
  have hI2:isE es (Zt m)=false:=by simpa using hI
  by_cases h0:es.length=2000
  ·rw [if_pos h0]
   exact KV (rows:=rows) m es nd hI2 hs hU w a9 s a n c h hA hnil h0
  rw [if_neg h0]
  exact KW hp (NG hp f) m es nd hI2 h0 hs hf hU hE9 hno w a9 cs s a n c hR h hA hnil _ rfl
end Go.Proofs.YtgmhhegckcionaaGreatDoor
