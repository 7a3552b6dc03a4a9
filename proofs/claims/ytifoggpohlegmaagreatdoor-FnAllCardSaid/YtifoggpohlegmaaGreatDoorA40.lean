/-
  Joined: Schd, SchD.
-/
import Derived.Test.YtifoggpohlegmaaGreatDoorA33

namespace Go.Proofs.YtifoggpohlegmaaGreatDoor
set_option maxRecDepth 100000
set_option maxHeartbeats 16000000
open Go.RowKit
set_option linter.unusedVariables false
set_option linter.unusedSimpArgs false

def goesTo (rows:List (List I3)) (ks:List Int) (m:V4):Prop:=(runI rows zeroV [] ks).2.2=0∧(runI rows zeroV [] ks).1=m
theorem runI_snoc (rows:List (List I3)) (k:Int):∀ (ks:List Int) (m:V4) (fs:List I3),(runI rows m fs ks).2.2=0→runI rows m fs (ks++[k])=runI rows (runI rows m fs ks).1 (runI rows m fs ks).2.1 [k]
 | [],m,fs,_=>rfl
 | j::ks,m,fs,h=>by
  by_cases hz:haltM rows m j=0
  ·have e1:∀ l,runI rows m fs (j::l)=runI rows (goM rows m j).1 (fs++ownM rows m j) l:=fun l=>by
    show (if haltM rows m j=0 then _ else _)=_
    rw [if_pos hz]
   rw [e1] at h
   rw [List.cons_append,e1,e1]
   exact runI_snoc rows k ks _ _ h
  ·have e1:runI rows m fs (j::ks)=(m,fs,haltM rows m j):=by
    show (if haltM rows m j=0 then _ else _)=_
    rw [if_neg hz]
   rw [e1] at h
   exact absurd h hz
theorem goesTo.snoc {rows:List (List I3)} {ks:List Int} {m:V4} {k:Nat} (h:goesTo rows ks m) (hk:k<3) (hc:canM rows m k=true):goesTo rows (ks++[(k:Int)]) (stepM m (insM rows m k) k).1:=by
 have hz:haltM rows m (k:Int)=0:=by
  have hd:=(can_parts hc).1
  unfold haltM
  rw [if_pos (by omega),Int.toNat_natCast]
  simp [hd,hc]
 have e:=runI_snoc rows (k:Int) ks zeroV [] h.1
 rw [h.2] at e
 have e2:runI rows m (runI rows zeroV [] ks).2.1 [(k:Int)]=((goM rows m k).1,(runI rows zeroV [] ks).2.1++ownM rows m k,0):=by
  show (if haltM rows m k=0 then _ else _)=_
  rw [if_pos hz]
  rfl
 rw [e2] at e
 unfold goesTo
 rw [e,goM_nat]
 exact ⟨rfl,rfl⟩
theorem own_apart_ne {w:World} {B e s n g t:Nat} {v:Value} {xs cs:List Value} (h:w.ownsRow B e s v n xs) (hB:Blk w g t cs) (he:e≠t):v.ownBlock≠some g:=own_ne_blk h hB he
theorem below_growS {p:Nat} {w w':World} {r:Option Nat} (h:w.grownBy w' r) (hr:∀ k,r=some k→p≤k) (hp:p≤w.heap.size):Below p w w':=⟨h.os,h.tape,h.output,h.size,fun k hk=>h.block k (by omega) (fun e=>by have:=hr k e.symm;omega)⟩
theorem own_kept_ltS {w w':World} {b N e s n:Nat} {v:Value} {xs:List Value} {r:Option Nat} (h:w.ownsRow b e s v n xs) (hg:w.grownBy w' r) (hr:∀ j,r=some j→j<N) (hN:N≤b):w'.ownsRow b e s v n xs:=by
 refine h.kept hg ?_
 cases hv:v.ownBlock with
 | none=>exact .inl rfl
 | some j=>exact .inr fun e=>by have h1:=(h.lt j hv).1;have h2:=hr j e.symm;omega
theorem OwnV.kept_ltS {w w':World} {B b N:Nat} {t:S4} {m:V4} {r:Option Nat} (h:OwnV w b t m) (hg:w.grownBy w' r) (hr:∀ j,r=some j→j<N) (hB:B≤b) (hN:N≤b):OwnV w' B t m:=
 ⟨⟨own_lowerB (own_kept_ltS h.1.1 hg hr hN) hB,own_lowerB (own_kept_ltS h.1.2.1 hg hr hN) hB,own_lowerB (own_kept_ltS h.1.2.2.1 hg hr hN) hB,own_lowerB (own_kept_ltS h.1.2.2.2 hg hr hN) hB⟩,h.2⟩
def OnSch (w wr:World) (p:Nat) (cd:Value) (a:Option Addr) (n cap T X5:Nat) (aP:Option Addr) (capP:Nat) (rows:List (List I3)) (t:S4) (m:V4) (v:Value) (ks:List Int):Prop:=
 Src wr p cd T∧Code wr p a n cap∧p<wr.heap.size∧Went p w wr∧Blk wr w.heap.size 25 [.slice aP 3 capP]∧Blk wr X5 33 (vmC t)∧OwnV wr (w.heap.size+1) t m∧Hid (shapeOk m=true)∧wr.ownsRow (w.heap.size+1) 3 1 v ks.length (ks.map (Value.int .i64))∧Hid (goesTo rows ks m)∧w.heap.size<X5∧∃ g c,v=.slice (some ⟨g,0,none⟩) ks.length c
def SchdGot (e:Ending) (w:World) (B:Nat) (rows:List (List I3)):Prop:=∃ (v:Value) (ks:List Int) (m:V4),(∃ g c,v=.slice (some ⟨g,0,none⟩) ks.length c)∧e=.returned v∧w.ownsRow B 3 1 v ks.length (ks.map (Value.int .i64))∧ks.length≤14∧goesTo rows ks m

theorem schedule_any (p T:Nat) (a:Option Addr) (n cap:Nat) (aP:Option Addr) (capP:Nat) (rows:List (List I3)) (w:World) (hS:Src w p (.slice a n cap) T) (hC:Code w p a n cap) (hT:T≤800000) (hok:progOk rows=true)
  (hPr:∀ W,Below p w W→Codes W aP 3 capP rows) :
  Calls Tryz.prog 53 #[.pointer (some ⟨p,0,none⟩),.agg #[.slice aP 3 capP]] w fun e w'=>SchdGot e w' w.heap.size rows∧Below p w w':=by
 obtain ⟨i0,hi9,hz0,hz1,hz2⟩:=info_parts info_int
 have hpw:p<w.heap.size:=hS.lt
 have HOK:Hid (progOk rows=true):=hok
 clear hok
 have hW1:Went p w (w.alloc (.cells #[.slice aP 3 capP] 25)):=(Went.refl p w).alloc _
 have pP:Blk (w.alloc (.cells #[.slice aP 3 capP] 25)) w.heap.size 25 [.slice aP 3 capP]:=blkAt _ _ _ rfl
 have hS1:=hS.alloc (.cells #[.slice aP 3 capP] 25)
 have hC1:=hC.below (hW1.below (Nat.le_of_lt hpw))
 have hsz:(w.alloc (.cells #[.slice aP 3 capP] 25)).heap.size=w.heap.size+1:=by simp
 go_enter Tryz.func53,Tryz.ntmps53
 go_wp2_with fail
 generalize (w.alloc (.cells #[.slice aP 3 capP] 25))=W1 at *
 refine (specNewVm_is W1).mono ?_
 rintro e w2 ⟨⟨t0,rfl,hO⟩,hb⟩
 obtain ⟨⟨a0,n0,k0⟩,⟨a1,n1,k1⟩,⟨a2,n2,k2⟩,⟨a3,n3,k3⟩⟩:=t0
 have uA:S4.val ((a0,n0,k0),(a1,n1,k1),(a2,n2,k2),(a3,n3,k3))=.agg #[.slice a0 n0 k0,.slice a1 n1 k1,.slice a2 n2 k2,.slice a3 n3 k3]:=rfl
 rw [uA]
 rw [hsz] at hO
 have hp1:p<W1.heap.size:=by omega
 have hW2:=hW1.trans (Went.of_below hb)
 have pP2:=pP.below hb
 have hS2:=hS1.belowD hb
 have hC2:=hC1.below (hb.mono (Nat.le_of_lt hp1))
 have hp2:p<w2.heap.size:=Nat.lt_of_lt_of_le hp1 hb.size
 have hw2:w.heap.size<w2.heap.size:=pP2.lt
 clear hb hW1 pP hS1 hC1 hp1 uA hsz
 have bA:Below w2.heap.size w2 ((w2.alloc (.cells #[.slice a0 n0 k0,.slice a1 n1 k1,.slice a2 n2 k2,.slice a3 n3 k3] 33)).alloc (.cells #[] 3)):=by go_grown
 have pX:Blk ((w2.alloc (.cells #[.slice a0 n0 k0,.slice a1 n1 k1,.slice a2 n2 k2,.slice a3 n3 k3] 33)).alloc (.cells #[] 3)) w2.heap.size 33 [.slice a0 n0 k0,.slice a1 n1 k1,.slice a2 n2 k2,.slice a3 n3 k3]:=blkOld _ (blkAt _ _ _ rfl)
 have q:((w2.alloc (.cells #[.slice a0 n0 k0,.slice a1 n1 k1,.slice a2 n2 k2,.slice a3 n3 k3] 33)).alloc (.cells #[] 3)).ownsRow (w.heap.size+1) 3 1 (.slice (some ⟨w2.heap.size+1,0,none⟩) 0 0) 0 []:=by
  have h9:=own_emptyB (w2.alloc (.cells #[.slice a0 n0 k0,.slice a1 n1 k1,.slice a2 n2 k2,.slice a3 n3 k3] 33)) 3 1 (w.heap.size+1) (by simp;omega)
  simpa using h9
 have hWay:OnSch w ((w2.alloc (.cells #[.slice a0 n0 k0,.slice a1 n1 k1,.slice a2 n2 k2,.slice a3 n3 k3] 33)).alloc (.cells #[] 3)) p (.slice a n cap) a n cap T w2.heap.size aP capP rows ((a0,n0,k0),(a1,n1,k1),(a2,n2,k2),(a3,n3,k3)) zeroV (.slice (some ⟨w2.heap.size+1,0,none⟩) 0 0) []:=⟨hS2.belowD bA,hC2.below (bA.mono (Nat.le_of_lt hp2)),by simp;omega,hW2.trans (Went.of_below bA),pP2.below bA,pX,hO.below bA,zero_shape,q,⟨rfl,rfl⟩,hw2,_,_,rfl⟩
 clear bA pX hS2 hC2 hW2 pP2 hO q
 go_wp2_with fail
 generalize ((w2.alloc (.cells #[.slice a0 n0 k0,.slice a1 n1 k1,.slice a2 n2 k2,.slice a3 n3 k3] 33)).alloc (.cells #[] 3))=W3 at *
 generalize w2.heap.size+1=g0 at *
 generalize w2.heap.size=X5 at *
 obtain ⟨hSr,hCd,hpU,hWn,pP,pX,hO,HS,q,HG,hX5,_⟩:=hWay
 refine (next_any p T a n cap 14 W3 hSr hCd (by omega) (by omega)).mono ?_
 rintro e w4 ⟨⟨v,hv,rfl⟩,hSr4,hst⟩
 have hWay:OnSch w w4 p (.slice a n cap) a n cap (T+3) X5 aP capP rows ((a0,n0,k0),(a1,n1,k1),(a2,n2,k2),(a3,n3,k3)) zeroV (.slice (some ⟨g0,0,none⟩) 0 0) []:=⟨hSr4,hCd.went hst (Nat.le_of_lt hpU),Nat.lt_of_lt_of_le hpU hst.size,hWn.trans hst,pP.went hst (by omega),pX.went hst (by omega),hO.went hst (by omega),HS,owns_wn q hst (by omega),HG,hX5,_,_,rfl⟩
 have hv14:v≤14:=by omega
 clear hSr hCd hpU hWn pP pX hO HS hSr4 hst hv q HG
 go_wp2_with fail
 go_loopw [6,7] (fun so si wr=>∃ (i TT:Nat) (t:S4) (m:V4) (ks:List Int) (vo:Value),vo=so∧si=.int .i64 i∧i≤14∧TT≤T+3+(14 - i)*3∧ks.length+i≤14∧OnSch w wr p (.slice a n cap) a n cap TT X5 aP capP rows t m vo ks) (fun _ si _=>(intOf si).toNat)
 case atStart=>exact ⟨v,T+3,_,_,[],_,rfl,rfl,hv14,by omega,by simpa using hv14,hWay⟩
 case round =>
  clear hWay hv14
  obtain ⟨i,TT,t,m,ks,so,rfl,rfl,hi,hTT,hki,hSr,hCd,hpU,hWn,pP,pX,hO,HS,q,HG,hX5,hsm⟩:=hrel
  have HSM:Hid (∃ g c,so=.slice (some ⟨g,0,none⟩) ks.length c):=hsm
  clear hsm
  have hpX:p≠X5:=by omega
  obtain ⟨⟨a0,n0,k0⟩,⟨a1,n1,k1⟩,⟨a2,n2,k2⟩,⟨a3,n3,k3⟩⟩:=t
  unfold vmC at pX
  simp only at pX
  have HE:Hid (∀ W,Below wr.heap.size wr W→∀ v9:Value,v9=so→SchdGot (.returned v9) W w.heap.size rows∧Below p w W):=fun W b v9 e9=>⟨⟨v9,ks,m,by rw [e9];exact HSM.out,rfl,by rw [e9];exact own_lowerB (owns_below q b) (by omega),by omega,HG.out⟩,(hWn.trans (Went.of_below b)).below (Nat.le_of_lt hpw)⟩
  by_cases hi0:i=0
  ·subst hi0
   have hE:=HE.out wr (Below.refl _ _) _ rfl
   clear hSr hCd hWn hO HS pP HE q HG pX
   go_wp2_with fail
   go_ret
   exact hE
  ·have hip:(0:Int)<(i:Int):=by omega
   obtain ⟨_,cs,hR⟩:=(hPr wr (hWn.below (Nat.le_of_lt hpw))).rowsAt HOK.out
   have hM:=hO.mem (shape_fits9 HS.out).1
   have kE:=l03Enabled_is aP 3 capP rows _ m cs wr rfl hR hM HOK.out HS.out
   have uA:S4.val ((a0,n0,k0),(a1,n1,k1),(a2,n2,k2),(a3,n3,k3))=.agg #[.slice a0 n0 k0,.slice a1 n1 k1,.slice a2 n2 k2,.slice a3 n3 k3]:=rfl
   rw [uA] at kE
   clear uA hM hR
   go_wp2_with (first | refine wpList_load_blk rfl 25 _ rfl w.heap.size rfl pP _ Tryz.underlying25 rfl (by kernel_rfl) ?_ | refine wpList_load_blk rfl 33 _ rfl X5 rfl pX _ Tryz.underlying33 rfl (by kernel_rfl) ?_)
   refine kE.mono ?_
   rintro e w5 ⟨⟨⟨la,ll,lc⟩,rfl,hLi⟩,hb⟩
   clear kE
   have hl:(enabM rows m 3).length=ll:=hLi.ints.1
   by_cases hL0:ll=0
   ·subst hL0
    have hE:=HE.out w5 hb _ rfl
    clear hSr hCd hWn hO HS pP HE q HG pX hLi hl hb
    go_wp2_with fail
    go_ret
    exact hE
   have hwr:w.heap.size+1≤wr.heap.size:=pP.lt
   replace hSr:=hSr.belowD hb
   replace hCd:=hCd.below (hb.mono (Nat.le_of_lt hpU))
   replace hWn:=hWn.trans (Went.of_below hb)
   replace pP:=pP.below hb
   replace pX:=pX.below hb
   replace hO:=hO.below hb
   replace q:=owns_below q hb
   have hLi2:OwnI w5 (w.heap.size+1) (la,ll,lc) (enabM rows m 3):=own_lower hLi hwr
   replace hpU:p<w5.heap.size:=Nat.lt_of_lt_of_le hpU hb.size
   clear hb hLi HE hwr
   have hLz:((ll:Int) == 0)=false:=by simp;omega
   have hL3:ll≤3:=by rw [← hl];exact enabM_len rows m 3
   obtain ⟨lg,lc2,hsl,_,_⟩:=hLi2.some9 hl (by omega)
   cases hsl
   have HAT:Hid (∀ j,j<ll→∃ k:Nat,(enabM rows m 3).getD j 0=k∧k<3∧canM rows m k=true):=fun j hj=>enab_at (by omega)
   clear hl
   obtain ⟨es,hes⟩:∃ es,es=enabM rows m 3:=⟨_,rfl⟩
   rw [← hes] at HAT hLi2
   clear hes
   go_wp2_with fail
   refine (next_any p TT a n cap (ll:Int) w5 hSr hCd (by omega) (by omega)).mono ?_
   rintro e w6 ⟨⟨v,hv,rfl⟩,hSn,hst⟩
   have hvl:v<ll:=by omega
   have hvi:(v:Int)<(ll:Int):=by omega
   have hv0:(0:Int)≤(v:Int):=by omega
   obtain ⟨kk,hkk,hk3,hcan⟩:=HAT.out v hvl
   have HCN:Hid (canM rows m kk=true):=hcan
   replace hSr:=hSn
   replace hCd:=hCd.went hst (Nat.le_of_lt hpU)
   replace hpU:p<w6.heap.size:=Nat.lt_of_lt_of_le hpU hst.size
   replace hWn:=hWn.trans hst
   replace pP:=pP.went hst (by omega)
   replace pX:=pX.went hst (by omega)
   replace hO:=hO.went hst (by omega)
   replace q:=owns_wn q hst (by omega)
   replace hLi2:=hLi2.went hst (by omega)
   have hcv:=hLi2.at9 hvl
   rw [hkk] at hcv
   clear hst hSn hv hcan HAT hkk hLi2 hLz
   obtain ⟨_,cs,hR⟩:=(hPr w6 (hWn.below (Nat.le_of_lt hpw))).rowsAt HOK.out
   have hM:=hO.mem (shape_fits9 HS.out).1
   have hsh:=shape_step HOK.out HS.out hk3 (can_parts HCN.out).1
   have kT:=l03Step_is (cap:=capP) rfl hR hM HOK.out HS.out hk3 (can_parts HCN.out).1
   have HG2:Hid (goesTo rows (ks++[(kk:Int)]) (stepM m (insM rows m kk) kk).1):=HG.out.snoc hk3 HCN.out
   have uA:S4.val ((a0,n0,k0),(a1,n1,k1),(a2,n2,k2),(a3,n3,k3))=.agg #[.slice a0 n0 k0,.slice a1 n1 k1,.slice a2 n2 k2,.slice a3 n3 k3]:=rfl
   rw [uA] at kT
   generalize (stepM m (insM rows m kk) kk).1=mm at *
   generalize (stepM m (insM rows m kk) kk).2=fd at *
   have HS2:Hid (shapeOk mm=true):=hsh
   clear hM hR uA hsh HCN HG HS
   go_wp2_with (first | refine wpList_load_blk rfl 25 _ rfl w.heap.size rfl pP _ Tryz.underlying25 rfl (by kernel_rfl) ?_ | refine wpList_load_blk rfl 33 _ rfl X5 rfl pX _ Tryz.underlying33 rfl (by kernel_rfl) ?_)
   refine kT.mono ?_
   rintro e w7 ⟨⟨⟨⟨b0,m0,q0⟩,⟨b1,m1,q1⟩,⟨b2,m2,q2⟩,⟨b3,m3,q3⟩⟩,rfl,hO2⟩,hb⟩
   have uC:S4.val ((b0,m0,q0),(b1,m1,q1),(b2,m2,q2),(b3,m3,q3))=.agg #[.slice b0 m0 q0,.slice b1 m1 q1,.slice b2 m2 q2,.slice b3 m3 q3]:=rfl
   rw [uC]
   clear uC kT hcv
   have hN6:w.heap.size+1≤w6.heap.size:=pP.lt
   have hqlt:∀ j,so.ownBlock=some j→j<w6.heap.size:=fun j hj=>(q.lt j hj).2
   have bA:Below w7.heap.size w7 (w7.alloc (.cells #[.slice b0 m0 q0,.slice b1 m1 q1,.slice b2 m2 q2,.slice b3 m3 q3] 33)):=by go_grown
   have pY:Blk (w7.alloc (.cells #[.slice b0 m0 q0,.slice b1 m1 q1,.slice b2 m2 q2,.slice b3 m3 q3] 33)) w7.heap.size 33 [.slice b0 m0 q0,.slice b1 m1 q1,.slice b2 m2 q2,.slice b3 m3 q3]:=blkAt _ _ _ rfl
   have b67:=bel_trans hb bA
   replace hSr:=hSr.belowD b67
   replace hCd:=hCd.below (b67.mono (Nat.le_of_lt hpU))
   replace hWn:=hWn.trans (Went.of_below b67)
   replace pP:=pP.below b67
   replace pX:=pX.below b67
   replace q:=owns_below q b67
   replace hO2:=hO2.below bA
   replace hpU:p<(w7.alloc (.cells #[.slice b0 m0 q0,.slice b1 m1 q1,.slice b2 m2 q2,.slice b3 m3 q3] 33)).heap.size:=Nat.lt_of_lt_of_le hpU b67.size
   clear b67 bA hb hO
   go_wp2_with (first | refine wpList_load_blk rfl 33 _ rfl w7.heap.size rfl pY _ Tryz.underlying33 rfl (by kernel_rfl) ?_ | refine wpList_store_blk rfl 33 _ _ rfl X5 [.slice b0 m0 q0,.slice b1 m1 q1,.slice b2 m2 q2,.slice b3 m3 q3] rfl rfl pX (by kernel_rfl) rfl rfl ?_)
   intro w9 pX9 g9
   have hne2:X5≠w.heap.size:=by omega
   replace hSr:=hSr.grown g9 (fun k e=>by cases e;omega)
   replace hCd:=hCd.below (grown_below g9 (show p≤X5 by omega) (Nat.le_of_lt hpU))
   replace hpU:p<w9.heap.size:=Nat.lt_of_lt_of_le hpU g9.size
   replace hWn:=hWn.grown g9 (fun k e=>by cases e;omega)
   replace pP:=pP.kept g9 (fun e=>hne2 (by cases e;rfl))
   replace hO2:=hO2.kept9 g9 pX (by decide)
   replace q:=q.kept g9 (own_apart_blk q pX (by decide))
   have pX:=pX9.out
   clear g9 pX9 pY
   have hln:ks.length≤14:=by omega
   have ha:Below w9.heap.size w9 (w9.alloc (.cells #[.int .i64 (kk:Int)] 3)):=by go_grown
   have hw9:w.heap.size+1≤w9.heap.size:=pP.lt
   go_wp2_with (at_builtin;refine wpList_append_own _ rfl _ _ 27 rfl (w.heap.size+1) 3 i0 (.int .i64 0) 1 8 Tryz.underlying27 hi9 hz0 hz1 hz2 rfl (by decide) _ _ _ rfl (q.alloc _) ⟨w9.heap.size,0,none⟩ 1 1 [.int .i64 (kk:Int)] rfl rfl (cell_one_new _ _ _) (by simp [Value.oneCell']) ?c3 ?c4 ?c5 ?_)
   case c3=>unfold maxLen;omega
   case c4=>omega
   case c5=>simp;omega
   intro v9 wn q9 g9 _
   have hne:∀ j,so.ownBlock=some j→w.heap.size+1≤j:=fun j hj=>(q.lt j hj).1
   have R:wn.ownsRow (w.heap.size+1) 3 1 v9 (ks++[(kk:Int)]).length ((ks++[(kk:Int)]).map (Value.int .i64)):=by
    rw [List.length_append,List.map_append]
    exact q9
   have hsm2:=own_someB R (by rw [List.length_append];simp)
   have hWay:OnSch w wn p (.slice a n cap) a n cap (TT+3) X5 aP capP rows ((b0,m0,q0),(b1,m1,q1),(b2,m2,q2),(b3,m3,q3)) mm v9 (ks++[(kk:Int)]):=⟨(hSr.belowD ha).grown g9 (fun k e=>by have:=hne k e;omega),(hCd.below (ha.mono (Nat.le_of_lt hpU))).below (below_growS g9 (fun k e=>by have:=hne k e;omega) (by have:=ha.size;omega)),Nat.lt_of_lt_of_le hpU (Nat.le_trans ha.size g9.size),(hWn.trans (Went.of_below ha)).grown g9 (fun k e=>by have:=hne k e;omega),(pP.below ha).kept g9 (fun e=>by have:=hne _ e;omega),(pX.below ha).kept g9 (fun e=>own_apart_ne q pX (by decide) e),OwnV.kept_ltS (hO2.below ha) g9 hqlt hN6 (Nat.le_refl _),HS2,R,HG2,hX5,hsm2⟩
   clear q9 g9 R hsm2 hSr hCd hpU hWn pP pX hO2 HS2 HG2 q ha hne hqlt
   go_wp2
   go_roundw
   case rel=>exact ⟨i - 1,TT+3,_,mm,ks++[(kk:Int)],_,rfl,by go_num,by omega,by omega,by rw [List.length_append];simp;omega,hWay⟩
   case measure=>simp [intOf];omega


theorem scheduleDrawn_any (a:Option Addr) (n cap:Nat) (zs:List Int) (aP:Option Addr) (capP:Nat) (rows:List (List I3)) (w:World) (hI:IsRow .u8 w a n cap zs) (hn:n≤1048576) (hP:Codes w aP 3 capP rows) (hok:progOk rows=true) :
  Calls Tryz.prog 11 #[.slice a n cap,.agg #[.slice aP 3 capP]] w fun e w'=>SchdGot e w' w.heap.size rows∧Below w.heap.size w w':=by
 have hCo:=code_of hI hn
 have bw:Below w.heap.size w (w.alloc (.cells #[.slice aP 3 capP] 25)):=by go_grown
 have pP:Blk (w.alloc (.cells #[.slice aP 3 capP] 25)) w.heap.size 25 [.slice aP 3 capP]:=blkAt _ _ _ rfl
 go_enter Tryz.func11,Tryz.ntmps11
 go_wp2_with fail
 have hX:w.heap.size<(w.alloc (.cells #[.slice aP 3 capP] 25)).heap.size:=pP.lt
 generalize (w.alloc (.cells #[.slice aP 3 capP] 25))=W1 at *
 have bw1:=bw
 have cP:W1.cell? ⟨w.heap.size,0,none⟩=some (.slice aP 3 capP):=pP.cell 0
 refine wp_region_held_drew (S:=(fun w'=>w'.cell? ⟨w.heap.size,0,none⟩=some (.slice aP 3 capP))) (by kernel_rfl) cP (fun hS0=>?_)
 refine tkm 0 5 (.slice a n cap) ?_
 refine tkm 2 7 (.agg #[.slice aP 3 capP]) ?_
 refine tkr 1 6 (fun K hK=>?_)
 go_simp
 refine (l00Source_any a n cap W1.drew hn).mono ?_
 rintro e w2 ⟨rfl,hS,hb⟩
 replace hS:Src w2 W1.heap.size (.slice a n cap) 0:=hS
 replace hb:Below W1.heap.size W1 w2:=⟨hb.os,hb.tape,hb.output,hb.size,hb.block⟩
 have hpl:W1.heap.size<w2.heap.size:=hS.lt
 have hCd:Code w2 W1.heap.size a n cap:=by
  obtain ⟨zs',q1,q2,q3,q4⟩:=hCo
  exact ⟨zs',q1.below (bel_trans bw hb),q2,q3,fun x hx h0=>by have:=q4 x hx h0;have:=bw.size;omega⟩
 replace bw:=bel_trans bw hb
 replace pP:=pP.below hb
 have hPr:∀ W,Below W1.heap.size w2 W→Codes W aP 3 capP rows:=fun W h=>(hP.below bw1).below (hb.trans h)
 have cP2:w2.cell? ⟨w.heap.size,0,none⟩=some (.slice aP 3 capP):=pP.cell 0
 go_wp2_with fail
 refine hK.out _ _ cP2 (fun hS1=>?_)
 clear hK
 try simp only [Act.put,tka,tkb,tkc]
 refine tkr 3 8 (fun K hK=>?_)
 go_simp
 refine (schedule_any W1.heap.size 0 a n cap aP capP rows w2 hS hCd (by omega) hok hPr).mono ?_
 rintro e w3 ⟨⟨v,ks,m,hsm,rfl,q,hl,hg⟩,hb3⟩
 have cP3:w3.cell? ⟨w.heap.size,0,none⟩=some (.slice aP 3 capP):=(pP.belowB hb3 (by omega)).cell 0
 have hw2:w.heap.size≤w2.heap.size:=bw.size
 replace bw:Below w.heap.size w w3:=bw.trans (hb3.mono (by omega))
 go_wp2_with fail
 refine hK.out _ _ cP3 (fun hS2=>?_)
 clear hK
 try simp only [Act.put,tka,tkb,tkc]
 refine tkm 4 4 v ?_
 refine wpAnyH_done (by kernel_rfl) ?_ _
 have hG:SchdGot (.returned v) w3 w.heap.size rows:=⟨v,ks,m,hsm,rfl,own_lowerB q hw2,hl,hg⟩
 clear hS hCd hPr pP hS0 hS1 hS2 cP2 cP3 q hsm
 go_wp2_with fail
 go_ret
 exact ⟨hG,bw⟩
end Go.Proofs.YtifoggpohlegmaaGreatDoor
