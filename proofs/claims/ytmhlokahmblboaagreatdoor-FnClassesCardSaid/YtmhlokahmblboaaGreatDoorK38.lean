/-
  Joined: SlpI.
-/
import Derived.Test.YtmhlokahmblboaaGreatDoorK37

namespace Go.Proofs.YtmhlokahmblboaaGreatDoor
set_option maxRecDepth 100000
set_option maxHeartbeats 16000000
open Go.RowKit
set_option linter.unusedVariables false
set_option linter.unusedSimpArgs false

def F4 (u W:World) (cs:Sl × Sl × Sl) (s4 s5:Value):Prop:=∃ X,s4=.pointer (some ⟨X,0,none⟩)∧s5=.int .i64 0∧Blk W X 69 (Zf cs.1.val cs.2.1.val cs.2.2.val Zl)∧u.heap.size≤X∧Below u.heap.size u W
def Tc (rows:List (List I3)):Int:=if Zn rows then (if (UD rows).2.2≤5000 then 0 else 15) else 1
def Gd (rows:List (List I3)):List I3:=if Tc rows=0 then Yg (UD rows).1 [] else []
def Mc (rows:List (List I3)):Int:=if Tc rows=0 then ((UD rows).2.1:Int) else 0
def Ge (rows:List (List I3)):Int:=if Tc rows=0 then ((UD rows).2.2:Int) else 0
def FC (e:Ending) (w:World) (B:Nat) (bs:List I3) (r n c:Int):Prop:=∃ v,e=.returned (.tuple #[.agg #[v,.int .i64 r,.int .i64 n],.int .i64 c])∧w.ownsRow B 90 3 v bs.length (Zr bs)
theorem MZ {rows:List (List I3)} {P:I3→Prop} {f:Nat} {m:V4} (hs:Zk m=true) (hp:Zn rows=true) (hO:∀ m k x,Zk m=true→Zv rows m k=0→x ∈ Yr rows m k→P x) (ih:∀ m Z st,Zk m=true→(∀ x ∈ st.1,P x)→∀ x ∈ (Xu rows f m Z st).1,P x) :
  ∀ (ks Z:List Int) (st:St7),(∀ k ∈ ks,Zv rows m k=0)→(∀ x ∈ st.1,P x)→∀ x ∈ (XJ rows m (Xu rows f) ks Z st).1,P x
 | [],Z,st,_,h=>h
 | k::ks,Z,st,hk,h=>by
  have hk':∀ j ∈ ks,Zv rows m j=0:=fun j hj=>hk j (List.mem_cons_of_mem _ hj)
  have h0:=hk k (List.mem_cons_self ..)
  by_cases hz:k ∈ Z
  ·rw [WB hz];exact MZ hs hp hO ih ks Z st hk' h
  rw [Ux hz]
  refine MZ hs hp hO ih ks _ _ hk' (ih _ _ _ (ZV hp hs h0) (fun x hx=>?_))
  rcases List.mem_append.1 hx with hx | hx
  ·exact h x hx
  exact hO m k x hs h0 hx
theorem LZ {rows:List (List I3)} (hp:Zn rows=true):∀ (f:Nat) (m:V4) (Z:List Int) (st:St7),Zk m=true→(∀ x ∈ st.1,okB x=true)→∀ x ∈ (Xu rows f m Z st).1,okB x=true
 | 0,_,_,st,_,h=>h
 | f+1,m,Z,st,hs,h=>by
  rw [Xu]
  split
  ·exact h
  refine MZ (P:=fun x=>okB x=true) hs hp (fun m k x h1 h2 h3=>Ly hp h1 h2 x h3) (LZ hp f) _ _ _ (fun k hk=>Ya hk) (fun x hx=>?_)
  rcases List.mem_append.1 hx with hx | hx
  ·exact h x hx
  exact JT rows m x hx
theorem Gf {rows:List (List I3)} (hp:Zn rows=true):∀ x ∈ (UD rows).1,I3.fits x:=fun x hx=>Xp (LZ hp 19 Zl [] ([],0,0) ZH (fun x hx=>by simp at hx) x hx)
theorem H8:XU 19≤1000000000:=by decide
theorem Fk {rows:List (List I3)} (hp:Zn rows=true):Fz rows 19 Zl [] ([],0,0):=⟨ZH,by have:=S8 hp Zl;omega,fun j hj=>by simp at hj,by simp,by simp only;have:=H8;omega,by simp,by simp⟩

theorem PA (a:Option Addr) (len cap:Nat) (rows:List (List I3)) (w:World) (hC:XL w a len cap rows) (hV:Ys w) (hp:Zn rows=true) :
  Calls Tryz.prog 8 #[.agg #[.slice a len cap]] w fun e w'=>FC e w' w.heap.size (Gd rows) (Mc rows) (Ge rows) (Tc rows)∧Below w.heap.size w w':=by
 obtain ⟨hlen,cs,hR⟩:=hC.rowsAt hp
 have kN:=Wr
 have fz:=(ZO ZH).1
 have bw:Below w.heap.size w ((w.alloc (.cells #[.slice a len cap] 25)).alloc (.cells #[.slice none 0 0,.int .i64 0,.int .i64 0] 31)):=by go_grown
 have pP:Blk ((w.alloc (.cells #[.slice a len cap] 25)).alloc (.cells #[.slice none 0 0,.int .i64 0,.int .i64 0] 31)) w.heap.size 25 [.slice a len cap]:=Zq _ (Zo _ _ _ rfl)
 have pR:Blk ((w.alloc (.cells #[.slice a len cap] 25)).alloc (.cells #[.slice none 0 0,.int .i64 0,.int .i64 0] 31)) (w.heap.size+1) 31 [.slice none 0 0,.int .i64 0,.int .i64 0]:=Zo _ _ _ (by simp)
 clear hlen
 go_enter Tryz.func8,Tryz.ntmps8
 go_wp2_with fail
 generalize ((w.alloc (.cells #[.slice a len cap] 25)).alloc (.cells #[.slice none 0 0,.int .i64 0,.int .i64 0] 31))=U at *
 have kS:=fun (W:World) (b:Below U.heap.size U W) (t:S4) (h:Yk W t Zl)=>VF a len cap rows t Zl W (hC.below (Zb bw b)) h (hV.below (Zb bw b)) hp ZH
 replace hR:=hR.below bw
 clear hC hV
 go_cut [4,5] from 8 (fun s4 s5 W=>F4 U W cs s4 s5)
 case first =>
  have hdr:Below U.heap.size U U.drew:=by go_grown
  refine wp_region_held_drew (S:=(fun w'=>w'.cell? ⟨w.heap.size,0,none⟩=some (.slice a len cap))) (by kernel_rfl) (by simpa using pP.cell 0) (fun hS0=>?_)
  refine tkm 0 9 (.agg #[.slice a len cap]) ?_
  have pP9:=pP.below hdr
  have bw:=hdr
  clear hdr
  generalize U.drew=V at *
  have bt:Below V.heap.size V V:=Below.refl _ _
  refine wpAnyH_ready (rs:=[1,6]) (by kernel_rfl) (by simp) ?_
  refine AllReadyH.cons (o:=⟨some 10,_,_,_,_,_⟩) rfl (fun K hK=>?_) (AllReadyH.cons (o:=⟨some 4,_,_,_,_,_⟩) rfl (fun K hK=>?_) AllReadyH.nil)
  ·go_simp
   refine (kN V).mono ?_
   rintro e V1 ⟨⟨⟨⟨t0a,t0n,t0c⟩,⟨t1a,t1n,t1c⟩,⟨t2a,t2n,t2c⟩,⟨t3a,t3n,t3c⟩⟩,rfl,hO⟩,hb1⟩
   have ut:S4.val ((t0a,t0n,t0c),(t1a,t1n,t1c),(t2a,t2n,t2c),(t3a,t3n,t3c))=.agg #[.slice t0a t0n t0c,.slice t1a t1n t1c,.slice t2a t2n t2c,.slice t3a t3n t3c]:=rfl
   rw [ut]
   have bt:=Zb bt hb1
   go_wp2_with fail
   refine hK.out _ _ (Za bt _ _ hS0) (fun hS1=>?_)
   clear hK
   try simp only [Act.put,tka,tkb,tkc]
   refine wpAnyH_ready (rs:=[2,6]) (by kernel_rfl) (by simp) ?_
   refine AllReadyH.cons (o:=⟨some 11,_,_,_,_,_⟩) rfl (fun K hK=>?_) (AllReadyH.cons (o:=⟨some 4,_,_,_,_,_⟩) rfl (fun K hK=>?_) AllReadyH.nil)
   ·have kx:=kS V1 (Zb bw bt) ((t0a,t0n,t0c),(t1a,t1n,t1c),(t2a,t2n,t2c),(t3a,t3n,t3c)) (hO.mem fz)
    rw [ut] at kx
    go_simp
    refine kx.mono ?_
    rintro e V2 ⟨⟨cs',rfl,hR'⟩,hb2⟩
    obtain rfl:=(hR.below (Zb bw bt)).uniq hR'
    have bt:=Zb bt hb2
    go_wp2_with fail
    refine hK.out _ _ (Za bt _ _ hS0) (fun hS2=>?_)
    clear hK kx
    try simp only [Act.put,tka,tkb,tkc]
    refine tkm 3 8 (.tuple #[.agg (Zf cs.1.val cs.2.1.val cs.2.2.val Zl).toArray,.int .i64 0]) ?_
    refine tkm 4 12 (.agg (Zf cs.1.val cs.2.1.val cs.2.2.val Zl).toArray) ?_
    refine tkm 5 13 (.int .i64 0) ?_
    refine tkr 6 4 (fun K hK=>?_)
    have hb3:Below V2.heap.size V2 (V2.alloc (.cells #[.slice none 0 0,.int .i64 0,.int .i64 0,.int .i64 0,.slice none 0 0,.int .i64 0,.int .i64 0,.int .i64 0,.slice none 0 0,.int .i64 0,.int .i64 0,.int .i64 0,.int .i64 0,.int .i64 0,.int .i64 0,.int .i64 0,.int .i64 0,.int .i64 0] 69)):=by go_grown
    have pX:Blk (V2.alloc (.cells #[.slice none 0 0,.int .i64 0,.int .i64 0,.int .i64 0,.slice none 0 0,.int .i64 0,.int .i64 0,.int .i64 0,.slice none 0 0,.int .i64 0,.int .i64 0,.int .i64 0,.int .i64 0,.int .i64 0,.int .i64 0,.int .i64 0,.int .i64 0,.int .i64 0] 69)) V2.heap.size 69 [.slice none 0 0,.int .i64 0,.int .i64 0,.int .i64 0,.slice none 0 0,.int .i64 0,.int .i64 0,.int .i64 0,.slice none 0 0,.int .i64 0,.int .i64 0,.int .i64 0,.int .i64 0,.int .i64 0,.int .i64 0,.int .i64 0,.int .i64 0,.int .i64 0]:=Zo _ _ _ rfl
    have hXB:U.heap.size≤V2.heap.size:=Nat.le_trans bw.size bt.size
    have bt:=Zb bt hb3
    go_simp
    refine hK.out _ _ (Za bt _ _ hS0) (fun hS3=>?_)
    clear hK
    generalize (V2.alloc (.cells #[.slice none 0 0,.int .i64 0,.int .i64 0,.int .i64 0,.slice none 0 0,.int .i64 0,.int .i64 0,.int .i64 0,.slice none 0 0,.int .i64 0,.int .i64 0,.int .i64 0,.int .i64 0,.int .i64 0,.int .i64 0,.int .i64 0,.int .i64 0,.int .i64 0] 69))=V3 at *
    obtain ⟨X,hX⟩:∃ X,X=V2.heap.size:=⟨_,rfl⟩
    rw [← hX] at pX hXB ⊢
    clear hX
    try simp only [Act.put,tka,tkb,tkc]
    refine tkz 7 (fun K hK=>?_)
    refine Zt rfl 69 _ _ rfl X (Zf cs.1.val cs.2.1.val cs.2.2.val Zl) rfl rfl pX (by kernel_rfl) rfl rfl ?_
    intro V9 pX9 g9
    have bz:=(Zb bw bt).grown g9 (Zb bw bt).size (fun q e=>by cases e;exact hXB)
    have hXP:X≠w.heap.size:=ZJ pX (pP9.below bt) (by decide)
    have c9:=Za bt _ _ hS0
    refine hK.out _ _ (Zh g9 c9 (by simp;omega)) (fun hS4=>?_)
    clear hK
    try simp only [Act.put,tka,tkb,tkc]
    refine tkm 8 5 (.int .i64 0) ?_
    refine wpAnyH_done (by kernel_rfl) ?_ _
    go_wp2_with fail
    go_meet
    case rel=>exact ⟨X,rfl,rfl,pX9.out,hXB,bz⟩
   have hb3:Below V1.heap.size V1 (V1.alloc (.cells #[.slice none 0 0,.int .i64 0,.int .i64 0,.int .i64 0,.slice none 0 0,.int .i64 0,.int .i64 0,.int .i64 0,.slice none 0 0,.int .i64 0,.int .i64 0,.int .i64 0,.int .i64 0,.int .i64 0,.int .i64 0,.int .i64 0,.int .i64 0,.int .i64 0] 69)):=by go_grown
   have pX:Blk (V1.alloc (.cells #[.slice none 0 0,.int .i64 0,.int .i64 0,.int .i64 0,.slice none 0 0,.int .i64 0,.int .i64 0,.int .i64 0,.slice none 0 0,.int .i64 0,.int .i64 0,.int .i64 0,.int .i64 0,.int .i64 0,.int .i64 0,.int .i64 0,.int .i64 0,.int .i64 0] 69)) V1.heap.size 69 [.slice none 0 0,.int .i64 0,.int .i64 0,.int .i64 0,.slice none 0 0,.int .i64 0,.int .i64 0,.int .i64 0,.slice none 0 0,.int .i64 0,.int .i64 0,.int .i64 0,.int .i64 0,.int .i64 0,.int .i64 0,.int .i64 0,.int .i64 0,.int .i64 0]:=Zo _ _ _ rfl
   have hXB:U.heap.size≤V1.heap.size:=Nat.le_trans bw.size bt.size
   replace hO:=hO.below hb3
   have bt:=Zb bt hb3
   go_simp
   refine hK.out _ _ (Za bt _ _ hS0) (fun hS3=>?_)
   clear hK
   generalize (V1.alloc (.cells #[.slice none 0 0,.int .i64 0,.int .i64 0,.int .i64 0,.slice none 0 0,.int .i64 0,.int .i64 0,.int .i64 0,.slice none 0 0,.int .i64 0,.int .i64 0,.int .i64 0,.int .i64 0,.int .i64 0,.int .i64 0,.int .i64 0,.int .i64 0,.int .i64 0] 69))=V2 at *
   obtain ⟨X,hX⟩:∃ X,X=V1.heap.size:=⟨_,rfl⟩
   rw [← hX] at pX hXB ⊢
   clear hX
   try simp only [Act.put,tka,tkb,tkc]
   refine tkr 2 11 (fun K hK=>?_)
   have kx:=kS V2 (Zb bw bt) ((t0a,t0n,t0c),(t1a,t1n,t1c),(t2a,t2n,t2c),(t3a,t3n,t3c)) (hO.mem fz)
   rw [ut] at kx
   go_simp
   refine kx.mono ?_
   rintro e V3 ⟨⟨cs',rfl,hR'⟩,hb2⟩
   obtain rfl:=(hR.below (Zb bw bt)).uniq hR'
   replace pX:=pX.below hb2
   have bt:=Zb bt hb2
   go_wp2_with fail
   refine hK.out _ _ (Za bt _ _ hS0) (fun hS2=>?_)
   clear hK kx
   try simp only [Act.put,tka,tkb,tkc]
   refine tkm 3 8 (.tuple #[.agg (Zf cs.1.val cs.2.1.val cs.2.2.val Zl).toArray,.int .i64 0]) ?_
   refine tkm 4 12 (.agg (Zf cs.1.val cs.2.1.val cs.2.2.val Zl).toArray) ?_
   refine tkm 5 13 (.int .i64 0) ?_
   refine tkz 7 (fun K hK=>?_)
   refine Zt rfl 69 _ _ rfl X (Zf cs.1.val cs.2.1.val cs.2.2.val Zl) rfl rfl pX (by kernel_rfl) rfl rfl ?_
   intro V9 pX9 g9
   have bz:=(Zb bw bt).grown g9 (Zb bw bt).size (fun q e=>by cases e;exact hXB)
   have hXP:X≠w.heap.size:=ZJ pX (pP9.below bt) (by decide)
   have c9:=Za bt _ _ hS0
   refine hK.out _ _ (Zh g9 c9 (by simp;omega)) (fun hS4=>?_)
   clear hK
   try simp only [Act.put,tka,tkb,tkc]
   refine tkm 8 5 (.int .i64 0) ?_
   refine wpAnyH_done (by kernel_rfl) ?_ _
   go_wp2_with fail
   go_meet
   case rel=>exact ⟨X,rfl,rfl,pX9.out,hXB,bz⟩
  have hb3:Below V.heap.size V (V.alloc (.cells #[.slice none 0 0,.int .i64 0,.int .i64 0,.int .i64 0,.slice none 0 0,.int .i64 0,.int .i64 0,.int .i64 0,.slice none 0 0,.int .i64 0,.int .i64 0,.int .i64 0,.int .i64 0,.int .i64 0,.int .i64 0,.int .i64 0,.int .i64 0,.int .i64 0] 69)):=by go_grown
  have pX:Blk (V.alloc (.cells #[.slice none 0 0,.int .i64 0,.int .i64 0,.int .i64 0,.slice none 0 0,.int .i64 0,.int .i64 0,.int .i64 0,.slice none 0 0,.int .i64 0,.int .i64 0,.int .i64 0,.int .i64 0,.int .i64 0,.int .i64 0,.int .i64 0,.int .i64 0,.int .i64 0] 69)) V.heap.size 69 [.slice none 0 0,.int .i64 0,.int .i64 0,.int .i64 0,.slice none 0 0,.int .i64 0,.int .i64 0,.int .i64 0,.slice none 0 0,.int .i64 0,.int .i64 0,.int .i64 0,.int .i64 0,.int .i64 0,.int .i64 0,.int .i64 0,.int .i64 0,.int .i64 0]:=Zo _ _ _ rfl
  have hXB:U.heap.size≤V.heap.size:=Nat.le_trans bw.size bt.size
  have bt:=Zb bt hb3
  go_simp
  refine hK.out _ _ (Za bt _ _ hS0) (fun hS3=>?_)
  clear hK
  generalize (V.alloc (.cells #[.slice none 0 0,.int .i64 0,.int .i64 0,.int .i64 0,.slice none 0 0,.int .i64 0,.int .i64 0,.int .i64 0,.slice none 0 0,.int .i64 0,.int .i64 0,.int .i64 0,.int .i64 0,.int .i64 0,.int .i64 0,.int .i64 0,.int .i64 0,.int .i64 0] 69))=V1 at *
  obtain ⟨X,hX⟩:∃ X,X=V.heap.size:=⟨_,rfl⟩
  rw [← hX] at pX hXB ⊢
  clear hX
  try simp only [Act.put,tka,tkb,tkc]
  refine tkr 1 10 (fun K hK=>?_)
  go_simp
  refine (kN V1).mono ?_
  rintro e V2 ⟨⟨⟨⟨t0a,t0n,t0c⟩,⟨t1a,t1n,t1c⟩,⟨t2a,t2n,t2c⟩,⟨t3a,t3n,t3c⟩⟩,rfl,hO⟩,hb1⟩
  have ut:S4.val ((t0a,t0n,t0c),(t1a,t1n,t1c),(t2a,t2n,t2c),(t3a,t3n,t3c))=.agg #[.slice t0a t0n t0c,.slice t1a t1n t1c,.slice t2a t2n t2c,.slice t3a t3n t3c]:=rfl
  rw [ut]
  have bt:=Zb bt hb1
  go_wp2_with fail
  refine hK.out _ _ (Za bt _ _ hS0) (fun hS1=>?_)
  clear hK
  try simp only [Act.put,tka,tkb,tkc]
  replace pX:=pX.below hb1
  refine tkr 2 11 (fun K hK=>?_)
  have kx:=kS V2 (Zb bw bt) ((t0a,t0n,t0c),(t1a,t1n,t1c),(t2a,t2n,t2c),(t3a,t3n,t3c)) (hO.mem fz)
  rw [ut] at kx
  go_simp
  refine kx.mono ?_
  rintro e V3 ⟨⟨cs',rfl,hR'⟩,hb2⟩
  obtain rfl:=(hR.below (Zb bw bt)).uniq hR'
  replace pX:=pX.below hb2
  have bt:=Zb bt hb2
  go_wp2_with fail
  refine hK.out _ _ (Za bt _ _ hS0) (fun hS2=>?_)
  clear hK kx
  try simp only [Act.put,tka,tkb,tkc]
  refine tkm 3 8 (.tuple #[.agg (Zf cs.1.val cs.2.1.val cs.2.2.val Zl).toArray,.int .i64 0]) ?_
  refine tkm 4 12 (.agg (Zf cs.1.val cs.2.1.val cs.2.2.val Zl).toArray) ?_
  refine tkm 5 13 (.int .i64 0) ?_
  refine tkz 7 (fun K hK=>?_)
  refine Zt rfl 69 _ _ rfl X (Zf cs.1.val cs.2.1.val cs.2.2.val Zl) rfl rfl pX (by kernel_rfl) rfl rfl ?_
  intro V9 pX9 g9
  have bz:=(Zb bw bt).grown g9 (Zb bw bt).size (fun q e=>by cases e;exact hXB)
  have hXP:X≠w.heap.size:=ZJ pX (pP9.below bt) (by decide)
  have c9:=Za bt _ _ hS0
  refine hK.out _ _ (Zh g9 c9 (by simp;omega)) (fun hS4=>?_)
  clear hK
  try simp only [Act.put,tka,tkb,tkc]
  refine tkm 8 5 (.int .i64 0) ?_
  refine wpAnyH_done (by kernel_rfl) ?_ _
  go_wp2_with fail
  go_meet
  case rel=>exact ⟨X,rfl,rfl,pX9.out,hXB,bz⟩
 obtain ⟨S0,rfl,rfl,pS,hUS,bz⟩:=hcut
 have hI:∀ k,k<3→ZK wc (slK cs k).1 (slK cs k).2.1 (slK cs k).2.2 (Yn rows k):=fun k hk=>by obtain ⟨_,_,_,_,h9⟩:=hR.below bz;exact (h9 k hk).2
 replace bw:=Zb bw bz
 replace pR:=pR.below bz
 have hRl:=pR.lt
 clear kS kN pP bz fz hR
 have hVC:JK rows wc wc.heap.size (wc.heap.size+1) cs 19:=Mo hp hI (Nat.le_refl _) 19
 have HV:Hid (JK rows wc wc.heap.size (wc.heap.size+1) cs 19):=hVC
 clear hVC hI
 have hsf:∀ W:World,(store ⟨wc.heap.size+1,0,none⟩ (.func (.func 35) #[] #[.pointer (some ⟨wc.heap.size,0,none⟩),.pointer (some ⟨wc.heap.size+1,0,none⟩)])).run Tryz.prog W=stored Tryz.prog W ⟨wc.heap.size+1,0,none⟩ (.func (.func 35) #[] #[.pointer (some ⟨wc.heap.size,0,none⟩),.pointer (some ⟨wc.heap.size+1,0,none⟩)]) .plain:=fun W=>run_store _ _ _ _ _ rfl
 have gA:Below wc.heap.size wc ((wc.alloc (.cells #[.slice none 0 0,.int .i64 0,.int .i64 0] 31)).alloc (.cells #[.func (.func 35) #[] #[.pointer (some ⟨wc.heap.size,0,none⟩),.pointer (some ⟨wc.heap.size+1,0,none⟩)]] 86)):=by go_grown
 have pX:Blk ((wc.alloc (.cells #[.slice none 0 0,.int .i64 0,.int .i64 0] 31)).alloc (.cells #[.func (.func 35) #[] #[.pointer (some ⟨wc.heap.size,0,none⟩),.pointer (some ⟨wc.heap.size+1,0,none⟩)]] 86)) wc.heap.size 31 [.slice none 0 0,.int .i64 0,.int .i64 0]:=Zq _ (Zo _ _ _ rfl)
 have pV:Blk ((wc.alloc (.cells #[.slice none 0 0,.int .i64 0,.int .i64 0] 31)).alloc (.cells #[.func (.func 35) #[] #[.pointer (some ⟨wc.heap.size,0,none⟩),.pointer (some ⟨wc.heap.size+1,0,none⟩)]] 86)) (wc.heap.size+1) 86 [.func (.func 35) #[] #[.pointer (some ⟨wc.heap.size,0,none⟩),.pointer (some ⟨wc.heap.size+1,0,none⟩)]]:=Zo _ _ _ (by simp)
 have cV:((wc.alloc (.cells #[.slice none 0 0,.int .i64 0,.int .i64 0] 31)).alloc (.cells #[.func (.func 35) #[] #[.pointer (some ⟨wc.heap.size,0,none⟩),.pointer (some ⟨wc.heap.size+1,0,none⟩)]] 86)).cell? ⟨wc.heap.size+1,0,none⟩=some (.func (.func 35) #[] #[.pointer (some ⟨wc.heap.size,0,none⟩),.pointer (some ⟨wc.heap.size+1,0,none⟩)]):=pV.cell 0
 have pS2:=pS.below gA
 have kV:=HV.out Zl [] ([],0,0) (Fk hp) ((wc.alloc (.cells #[.slice none 0 0,.int .i64 0,.int .i64 0] 31)).alloc (.cells #[.func (.func 35) #[] #[.pointer (some ⟨wc.heap.size,0,none⟩),.pointer (some ⟨wc.heap.size+1,0,none⟩)]] 86)) (.slice none 0 0) (.slice none 0 0) gA ⟨pX,World.ownsRow_nil _ _ _ _,pV⟩ (World.ownsRow_nil _ _ _ _)
 have hfit:=Gf hp
 have hsz:=Sx rows 19 Zl [] ([],0,0) 0 (by simp) (by simp)
 have hrm:=Sv rows 19 Zl [] ([],0,0)
 have hr19:=H8
 have HE1:Hid (Tc rows=if (UD rows).2.2≤5000 then 0 else 15):=by rw [Hid,Tc,hp];rfl
 have HE2:Hid (Gd rows=if Tc rows=0 then Yg (UD rows).1 [] else []):=rfl
 have HE3:Hid (Mc rows=if Tc rows=0 then ((UD rows).2.1:Int) else 0):=rfl
 have HE4:Hid (Ge rows=if Tc rows=0 then ((UD rows).2.2:Int) else 0):=rfl
 have eS:Xu rows 19 Zl [] ([],0,0)=UD rows:=rfl
 rw [eS] at kV hsz hrm
 generalize UD rows=st at *
 obtain ⟨bs,rn,nd⟩:=st
 simp only at hsz hrm hfit HE1 HE2 HE3 HE4
 clear HV pS eS hp
 go_wp2_with (first | refine Zc rfl 69 _ rfl S0 rfl pS2 _ Tryz.underlying69 rfl (by kernel_rfl) ?_)
 refine kV.mono ?_
 rintro e w1 ⟨rfl,bv,⟨pX1,q1,pV1⟩,mb,kp⟩
 have b1:Below wc.heap.size wc w1:=gA.trans (kp.below (Nat.le_refl _) (fun q hq=>by simp [Value.ownBlock] at hq) (fun q hq=>by simp [Value.ownBlock] at hq) gA.size)
 replace bw:=Zb bw b1
 replace pR:=pR.below b1
 have hX0:w.heap.size+1<wc.heap.size:=hRl
 clear kV gA pX pV cV pS2 hsf mb kp pV1 b1 hUS
 simp only at pX1 q1
 obtain ⟨X,hX⟩:∃ X,X=wc.heap.size:=⟨_,rfl⟩
 rw [← hX] at pX1 q1 hX0 ⊢
 have hwX:w.heap.size≤X:=by omega
 clear hX hRl
 have cX2:w1.cell? ⟨X,2,none⟩=some (.int .i64 (nd:Int)):=by simpa using pX1.cell 2
 by_cases h5:nd≤5000
 ·have h5':¬ (5000<(nd:Int)):=by omega
  have HC:Hid (Tc rows=0):=by rw [Hid,HE1.out,if_pos h5]
  have HB:Hid (Gd rows=Yg bs []):=by rw [Hid,HE2.out,HC.out];rfl
  have HR:Hid (Mc rows=(rn:Int)):=by rw [Hid,HE3.out,HC.out];rfl
  have HN:Hid (Ge rows=(nd:Int)):=by rw [Hid,HE4.out,HC.out];rfl
  clear HE1 HE2 HE3 HE4
  obtain ⟨ba,bc,rfl,hIn,hGd⟩:=XC q1 hfit
  have kM:=Qs ba bs.length bc bs none 0 0 [] w1 hIn ⟨rfl,Nat.le_refl _,by unfold maxLen;omega,by simp,.inl rfl⟩ (by omega) (by omega) hGd ⟨fun _=>rfl,fun x hx=>by cases hx⟩
  have cX0:w1.cell? ⟨X,0,none⟩=some (.slice ba bs.length bc):=by simpa using pX1.cell 0
  clear q1 hIn hGd hfit hsz hrm hr19
  go_wp2_with fail
  refine kM.mono ?_
  rintro e w2 ⟨⟨v5,rfl,q5⟩,hb⟩
  have hw1:=bw.size
  replace bw:=Zb bw hb
  replace pR:=pR.below hb
  replace pX1:=pX1.below hb
  clear kM hb cX0 cX2
  have q6:=ZY (B':=w.heap.size) q5 hw1
  clear q5
  obtain ⟨va,vn,vc,rfl⟩:=ZZ q6
  have cX0:w2.cell? ⟨X,0,none⟩=some (.slice ba bs.length bc):=by simpa using pX1.cell 0
  have fX0:=pX1.frozen 0
  have gX:=Zu w2 X 0 (.slice va vn vc)
  have pX2:Blk (w2.setCell ⟨X,0,none⟩ (.slice va vn vc)) X 31 [.slice va vn vc,.int .i64 (rn:Int),.int .i64 (nd:Int)]:=pX1.set 0 (.slice va vn vc)
  have pR2:=pR.kept gX (by simp;omega)
  have q7:=q6.kept gX (.inr (Zg q6 pX1 (by decide)))
  have bw2:=bw.grown gX bw.size (fun q e=>by cases e;exact hwX)
  clear pX1 pR q6 bw gX
  go_wp2_with (first | refine Zc rfl 31 _ rfl X rfl pX2 _ Tryz.underlying31 rfl (by kernel_rfl) ?_ | refine Zd rfl 31 _ _ rfl (w.heap.size+1) [.slice va vn vc,.int .i64 (rn:Int),.int .i64 (nd:Int)] rfl rfl pR2 (by kernel_rfl) rfl rfl ?_)
  intro w3 pR3 g3
  have b3:=bw2.grown g3 bw2.size (fun q e=>by cases e;omega)
  have q8:=q7.kept g3 (.inr (Zg q7 pR2 (by decide)))
  clear pX2 pR2 q7 bw2 g3 cX0 fX0
  go_wp2_with fail
  refine bodyPost_ret (ZF Tryz.results8 _ _ _ _ _ _ rfl pR3.out Tryz.underlying31 rfl (by kernel_rfl)) rfl ?_
  refine ⟨⟨.slice va vn vc,?_,?_⟩,b3⟩
  ·rw [HR.out,HN.out,HC.out];rfl
  rw [HB.out];exact q8
 have h5':5000<(nd:Int):=by omega
 have HC:Hid (Tc rows=15):=by rw [Hid,HE1.out,if_neg h5]
 have HB:Hid (Gd rows=[]):=by rw [Hid,HE2.out,HC.out];rfl
 have HR:Hid (Mc rows=0):=by rw [Hid,HE3.out,HC.out];rfl
 have HN:Hid (Ge rows=0):=by rw [Hid,HE4.out,HC.out];rfl
 clear HE1 HE2 HE3 HE4 q1 hfit hsz hrm hr19 h5
 go_wp2_with (refine Zd rfl 31 _ _ rfl (w.heap.size+1) [.slice none 0 0,.int .i64 0,.int .i64 0] rfl rfl pR (by kernel_rfl) rfl rfl ?_)
 intro w3 pR3 g3
 have b3:=bw.grown g3 bw.size (fun q e=>by cases e;omega)
 go_wp2_with fail
 refine bodyPost_ret (ZF Tryz.results8 _ _ _ _ _ _ rfl pR3.out Tryz.underlying31 rfl (by kernel_rfl)) rfl ?_
 refine ⟨⟨.slice none 0 0,?_,?_⟩,b3⟩
 ·rw [HR.out,HN.out,HC.out];rfl
 rw [HB.out];exact World.ownsRow_nil _ _ _ _

end Go.Proofs.YtmhlokahmblboaaGreatDoor
