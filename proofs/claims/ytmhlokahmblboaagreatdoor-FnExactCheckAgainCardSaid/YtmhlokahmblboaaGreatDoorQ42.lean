/-
  Joined: ComI, VstI, MemC, LokA.
-/
import Derived.Defers
import Derived.Test.YtmhlokahmblboaaGreatDoorQ41

namespace Go.Proofs.YtmhlokahmblboaaGreatDoor
set_option maxRecDepth 100000
set_option maxHeartbeats 16000000
open Go.RowKit
set_option linter.unusedVariables false
set_option linter.unusedSimpArgs false

theorem NC:(Tryz.prog.info? 72).map (fun i=>(i.zero,i.size,i.bytes))=some (some (.slice none 0 0),1,24):=by kernel_rfl
def Pv (rows:List (List I3)) (g:Nat) (w0:World) (C nb:Nat) (cs:Sl × Sl × Sl) (f:Nat):Prop:=∀ (m:V4) (st:ZB) (n:Nat) (L:List EQ) (w:World),Ze m=true→Xb rows m<f→(∀ e ∈ st.1,Yg e)→st.2+VM f≤600000000→n≤g+st.2→L.map (·.1)=st.1→OnC w0 w C nb g n L st.2 →
 Calls Tryz.prog 52 #[.pointer (some ⟨C,0,none⟩),.agg (Zi cs.1.val cs.2.1.val cs.2.2.val m).toArray] w fun x w'=>MB x w0 w w' C nb g n L st.2 (Yd rows g f m st)
def Fy (w:World) (C:Nat) (vf vt:Value) (v:Value) (xs:List Int):Prop:=∃ la ln lc,v=.slice la ln lc∧ZW .i64 w la ln lc xs∧∀ q,SlB (la,ln,lc) q→q≠C∧vf.ownBlock≠some q∧vt.ownBlock≠some q
def Pr (w:World) (C:Nat) (vf vt:Value) (vs:List Value) (xss:List (List Int)):Prop:=vs.length=xss.length∧∀ t,t<xss.length→Fy w C vf vt (vs.getD t undef) (xss.getD t [])
theorem Pr.allL {w:World} {C:Nat} {vf vt:Value} {vs:List Value} {xss:List (List Int)} (h:Pr w C vf vt vs xss):Ke w vs xss:=⟨h.1,fun t ht=>by
 obtain ⟨la,ln,lc,e,hi,_⟩:=h.2 t ht
 exact ⟨la,ln,lc,e,hi⟩⟩
theorem Pr.turn {w w':World} {C:Nat} {vf vt vf' vt':Value} {vs:List Value} {xss:List (List Int)} (h:Pr w C vf vt vs xss) (hs:w.heap.size≤w'.heap.size) (hb:∀ q,q<w.heap.size→q≠C→(∀ es clock,w.heap[q]?≠some (.map es clock))→vf.ownBlock≠some q→vt.ownBlock≠some q→w'.heap[q]?=w.heap[q]?∧vf'.ownBlock≠some q∧vt'.ownBlock≠some q):Pr w' C vf' vt' vs xss:=
 ⟨h.1,fun t ht=>by
  obtain ⟨la,ln,lc,e,hi,ho⟩:=h.2 t ht
  refine ⟨la,ln,lc,e,hi.same11 hs (fun q hq=>?_),fun q hq=>?_⟩
  ·obtain ⟨h1,h2⟩:=hi.blk11 hq
   exact (hb q h1 (ho q hq).1 h2 (ho q hq).2.1 (ho q hq).2.2).1
  obtain ⟨h1,h2⟩:=hi.blk11 hq
  exact ⟨(ho q hq).1,(hb q h1 (ho q hq).1 h2 (ho q hq).2.1 (ho q hq).2.2).2⟩⟩
theorem Pr.snoc {w:World} {C:Nat} {vf vt:Value} {vs:List Value} {xss:List (List Int)} {v:Value} {xs:List Int} (h:Pr w C vf vt vs xss) (hv:Fy w C vf vt v xs):Pr w C vf vt (vs++[v]) (xss++[xs]):=by
 refine ⟨by simp [h.1],fun t ht=>?_⟩
 by_cases h9:t<xss.length
 ·have e1:(vs++[v]).getD t undef=vs.getD t undef:=by simp [List.getD,List.getElem?_append_left (show t<vs.length by have:=h.1;omega)]
  have e2:(xss++[xs]).getD t []=xss.getD t []:=by simp [List.getD,List.getElem?_append_left h9]
  rw [e1,e2]
  exact h.2 t h9
 have e9:t=xss.length:=by simp at ht;omega
 subst e9
 have e1:(vs++[v]).getD xss.length undef=v:=by rw [← h.1];simp [List.getD]
 have e2:(xss++[xs]).getD xss.length []=xs:=by simp [List.getD]
 rw [e1,e2]
 exact hv
structure JI (w0 w wr:World) (C nb g n:Nat) (L:List EQ) (nd:Nat) (cs:Sl × Sl × Sl) (rows:List (List I3)) (f:Nat) (m:V4) (st:ZB) (Y bL:Nat) (sl:Sl) (j:Nat) (vf vt:Value) (L':List EQ) (n':Nat) (vs:List Value) (xss:List (List Int)):Prop where
 oc:OnC w0 wr C nb g n' L' (ZO rows g f m st j).2.2
 lm:L'.map (·.1)=(ZO rows g f m st j).2.1
 nn:n'+nd≤n+(ZO rows g f m st j).2.2
 old:∀ x ∈ L',x ∈ L∨∀ q,EnB x.2 q→w.heap.size≤q
 mc:Blk wr Y 69 (Zi cs.1.val cs.2.1.val cs.2.2.val m)
 ls:ZS wr bL sl (Zt rows m 3)
 fo:wr.ownsRow w.heap.size 90 3 vf (ZO rows g f m st j).1.1.length (Zk (ZO rows g f m st j).1.1)
 fe:wr.ownsRow w.heap.size 72 1 vt (j+1) vs
 fl:xss.length=j+1∧xss.flatten=(ZO rows g f m st j).1.2
 fs:Pr wr C vf vt vs xss
 sep:∀ x ∈ L',∀ q,EnB x.2 q→vf.ownBlock≠some q∧vt.ownBlock≠some q
 kp:Wc w wr C nb
def Ps (x:Ending) (w0 w w':World) (C nb g n:Nat) (L:List EQ) (nd:Nat) (R:E3 × ZB):Prop:=
 ∃ (s:Sl2) (L':List EQ) (n':Nat),x=.returned (ZU R.1.1 s)∧YL w' s R.1∧Lv C s∧(∀ j,EnB s j→w.heap.size≤j)∧OnC w0 w' C nb g n' L' R.2.2∧L'.map (·.1)=R.2.1∧n'+nd≤n+R.2.2∧(∀ x ∈ L',x ∈ L∨∀ j,EnB x.2 j→w.heap.size≤j)∧Wc w w' C nb
def Uu (V W:World) (B:Nat) (v:Value) (xs:List I3) (s7:Value):Prop:=∃ a c,s7=.slice a xs.length c∧W.ownsRow B 90 3 (.slice a xs.length c) xs.length (Zk xs)∧V.grownBy W v.ownBlock∧((Value.slice a xs.length c).ownBlock=v.ownBlock∨∃ q,(Value.slice a xs.length c).ownBlock=some q∧V.heap.size≤q)
theorem Uu.mk9 {V W:World} {B:Nat} {v:Value} {xs:List I3} {s7:Value} (h:W.ownsRow B 90 3 s7 xs.length (Zk xs)) (g:V.grownBy W v.ownBlock) (k:s7.ownBlock=v.ownBlock∨∃ q,s7.ownBlock=some q∧V.heap.size≤q):Uu V W B v xs s7:=by
 obtain ⟨a,c,rfl⟩:=ZH h
 exact ⟨a,c,rfl,h,g,k⟩
theorem Ja (W:World) (e B:Nat) (v:Value) (hB:B≤W.heap.size):(W.alloc (.cells #[v] e)).ownsRow B e 1 (.slice (some ⟨W.heap.size,0,none⟩) 1 1) 1 [v]:=by
 exact World.ownsRow_lit W #[v] 1 hB (by unfold maxLen;omega) (by simp)
theorem FE (a b c:Int):∀ u ∈ [Value.int .i64 a,.int .i64 b,.int .i64 c],u.oneCell'=true:=by
 intro u hu
 simp only [List.mem_cons,List.not_mem_nil,or_false] at hu
 rcases hu with rfl | rfl | rfl<;>rfl
theorem Nu (xs:List I3) (x:I3):Zk (xs++[x])=Zk xs++[.int .i64 x.1,.int .i64 x.2.1,.int .i64 x.2.2]:=by simp [Zk,I3.cells]
theorem PD (w:World) (r:Option Nat):w.grownBy w r:=⟨rfl,rfl,rfl,Nat.le_refl _,fun _ _ _=>rfl⟩
theorem US {a b c:World} {r:Option Nat} (h:Below a.heap.size a b) (k:b.grownBy c r):a.grownBy c r:=⟨k.os.trans h.os,k.tape.trans h.tape,k.output.trans h.output,Nat.le_trans h.size k.size,fun j hj hr=>(k.block j (Nat.lt_of_lt_of_le hj h.size) hr).trans (h.block j hj)⟩
theorem MI {rows:List (List I3)} {g:Nat} {w0:World} {C nb:Nat} {cs:Sl × Sl × Sl} (hp:Zq rows=true) (hg:g≤2000) (hV:ZQ w0) (hI:∀ k,k<3→Zj w0 (slK cs k).1 (slK cs k).2.1 (slK cs k).2.2 (Xn rows k)) {f:Nat} (ih:Pv rows g w0 C nb cs f)
  (m:V4) (st:ZB) (n:Nat) (L:List EQ) (w:World) (hs:Ze m=true) (hf:Xb rows m<f+1) (hE:∀ e ∈ st.1,Yg e) (ht:st.2+3*VM f≤600000000) (hn:n+1≤g+st.2) (hL:L.map (·.1)=st.1) (hO:OnC w0 w C nb g n L st.2) :
  Calls Tryz.prog 109 #[.pointer (some ⟨C,0,none⟩),.string (ZC m),.agg (Zi cs.1.val cs.2.1.val cs.2.2.val m).toArray] w fun x w'=>Ps x w0 w w' C nb g n L st.2 (Vl m (ZO rows g f m st 3),(ZO rows g f m st 3).2):=by
 obtain ⟨i0,hi9,hz0,hz1,hz2⟩:=info_parts Y6
 obtain ⟨j0,hjI,hy0,hy1,hy2⟩:=info_parts NC
 have kO:=fun i=>JC (g:=g) (f:=f) hp hs hE i
 have HNX:=fun (k:Int) (hk:k ∈ Zt rows m 3)=>Su hp hs (k,(goM rows m k).1) (by unfold nxM;exact List.mem_map.2 ⟨k,hk,rfl⟩)
 obtain ⟨key,hkey⟩:∃ key,key=ZC m:=⟨_,rfl⟩
 have hks:key.size≤maxLen:=by rw [hkey,WN hs];unfold maxLen;omega
 rw [← hkey]
 have HKEY:Hid (key=ZC m):=hkey
 clear hkey
 obtain ⟨x0,x1,x2,x3,x4,x5,x6,x7,x8,x9,x10,x11,x12,x13,x14,x15,x16,x17,hMC⟩:∃ x0 x1 x2 x3 x4 x5 x6 x7 x8 x9 x10 x11 x12 x13 x14 x15 x16 x17:Value,Zi cs.1.val cs.2.1.val cs.2.2.val m=[x0,x1,x2,x3,x4,x5,x6,x7,x8,x9,x10,x11,x12,x13,x14,x15,x16,x17]:=⟨_,_,_,_,_,_,_,_,_,_,_,_,_,_,_,_,_,_,rfl⟩
 have bw:Below w.heap.size w ((w.alloc (.cells #[x0,x1,x2,x3,x4,x5,x6,x7,x8,x9,x10,x11,x12,x13,x14,x15,x16,x17] 69)).alloc (.cells #[.string ⟨#[]⟩,.slice none 0 0,.slice none 0 0] 109)):=by go_grown
 have pY:Blk ((w.alloc (.cells #[x0,x1,x2,x3,x4,x5,x6,x7,x8,x9,x10,x11,x12,x13,x14,x15,x16,x17] 69)).alloc (.cells #[.string ⟨#[]⟩,.slice none 0 0,.slice none 0 0] 109)) w.heap.size 69 [x0,x1,x2,x3,x4,x5,x6,x7,x8,x9,x10,x11,x12,x13,x14,x15,x16,x17]:=Zf _ (Zh _ _ _ rfl)
 have pR:Blk ((w.alloc (.cells #[x0,x1,x2,x3,x4,x5,x6,x7,x8,x9,x10,x11,x12,x13,x14,x15,x16,x17] 69)).alloc (.cells #[.string ⟨#[]⟩,.slice none 0 0,.slice none 0 0] 109)) (w.heap.size+1) 109 [.string ⟨#[]⟩,.slice none 0 0,.slice none 0 0]:=Zh _ _ _ (by simp)
 go_enter Tryz.func109,Tryz.ntmps109
 go_wp2_with fail
 have HS0:=hO
 generalize ((w.alloc (.cells #[x0,x1,x2,x3,x4,x5,x6,x7,x8,x9,x10,x11,x12,x13,x14,x15,x16,x17] 69)).alloc (.cells #[.string ⟨#[]⟩,.slice none 0 0,.slice none 0 0] 109))=U at *
 rw [← hMC] at pY
 clear hMC
 have b0:=Zb hO.base bw
 obtain ⟨Z6,hZ6⟩:∃ Z6,Z6=w.heap.size+1:=⟨_,rfl⟩
 rw [← hZ6] at pR ⊢
 obtain ⟨Y,hY⟩:∃ Y,Y=w.heap.size:=⟨_,rfl⟩
 rw [← hY] at pY ⊢
 have hYw:w.heap.size≤Y:=by omega
 have hZw:w.heap.size≤Z6:=by omega
 clear hY hZ6
 have kU:=Sb (Mo Y cs rows m U ⟨pY,fun k hk=>(hI k hk).below b0⟩ hp hs)
 rw [show (if Wq rows m then [((14:Int),(0:Int),(0:Int))] else [])=Zw rows m from rfl] at kU
 refine kU.mono ?_
 rintro e w1 ⟨⟨vf0,rfl,hf0⟩,hb⟩
 replace hf0:=ZT hf0 bw.size
 replace bw:=Zb bw hb
 replace pY:=pY.below hb
 replace pR:=pR.below hb
 clear kU hb b0
 have kL:=J6 Y 0 cs m w1 (QK pY) hs
 go_wp2_with fail
 refine kL.mono ?_
 rintro e w2 ⟨⟨vl,rfl,ql⟩,hb⟩
 replace ql:=ZT ql bw.size
 replace bw:=Zb bw hb
 replace pY:=pY.below hb
 replace pR:=pR.below hb
 replace hf0:=Zp hf0 hb
 obtain ⟨la,lc,rfl⟩:=ZH ql
 obtain ⟨_,_,e9,iL,_,oL⟩:=U8 ql
 cases e9
 have hb3:Below w2.heap.size w2 (w2.alloc (.cells #[.slice la (Zx m).length lc] 72)):=by go_grown
 have hT0:(w2.alloc (.cells #[.slice la (Zx m).length lc] 72)).ownsRow w.heap.size 72 1 (.slice (some ⟨w2.heap.size,0,none⟩) 1 1) 1 [.slice la (Zx m).length lc]:=Ja _ _ _ _ bw.size
 have iL3:=iL.below hb3
 have hlt2:=fun j (hj:SlB (la,(Zx m).length,lc) j)=>Yf ql (oL j hj)
 have hvf2:=fun j (hj:vf0.ownBlock=some j)=>Yf hf0 hj
 have hap0:=Ap3.types ql hf0 (by decide)
 replace bw:=Zb bw hb3
 replace pY:=pY.below hb3
 replace pR:=pR.below hb3
 replace hf0:=Zp hf0 hb3
 clear kL hb ql iL
 generalize hlk:(Zx m).length=ll at *
 go_upto_region 3 with fail
 clear hb3
 generalize (w2.alloc (.cells #[.slice la ll lc] 72))=w3 at *
 generalize w2.heap.size=T0 at *
 have kE:=Rk Y cs rows m w3 ⟨pY,fun k hk=>(hI k hk).below (Zb hO.base bw)⟩ hp hs
 go_wp2_with fail
 refine kE.mono ?_
 rintro e w4 ⟨⟨⟨ka,kn,kc⟩,rfl,hLs⟩,hb⟩
 have hLn:(Zt rows m 3).length=kn:=by have:=hLs.1;simpa using this
 have hn3:kn≤3:=by rw [← hLn];exact Xh rows m 3
 have bw4:=Zb bw hb
 have hCw:C<w.heap.size:=hO.box.lt
 have hst:JI w0 w w4 C nb g n L st.2 cs rows f m st Y w3.heap.size (ka,kn,kc) 0 vf0 (.slice (some ⟨T0,0,none⟩) 1 1) L n [.slice la ll lc] [Zx m]:=by
  refine ⟨hO.below bw4,hL,Nat.le_refl _,fun x hx=>.inl hx,pY.below hb,hLs,Zp hf0 hb,Zp hT0 hb,⟨rfl,by rw [Lq];simp⟩,⟨rfl,fun t ht9=>?_⟩,fun x hx q hq=>?_,Wc.of bw4⟩
  ·obtain rfl:t=0:=by simpa using ht9
   refine ⟨la,ll,lc,rfl,iL3.below hb,fun q hq=>⟨?_,fun e9=>hap0 q (oL q hq) e9,fun e9=>?_⟩⟩
   ·have:=(hlt2 q hq).1
    omega
   have h8:=(hlt2 q hq).2
   have h9:T0=q:=by injection e9
   omega
  have h1:=((hO.ents x hx).1.blk11 hq).1
  refine ⟨fun e9=>?_,fun e9=>?_⟩
  ·have:=(hvf2 q e9).1
   omega
  have h9:T0=q:=by injection e9
  have h8:=(hT0.lt T0 rfl).1
  omega
 have pR4:=pR.below hb
 have bR:Below w.heap.size w w4:=bw4
 generalize w3.heap.size=bL at *
 clear hb kE hLs bw bw4 pY pR hf0 hT0 iL3 hlt2 hvf2 hap0 oL
 go_wp2_with fail
 go_loopw [7,8,19] (fun s7 s8 s19 wr=>∃ (j n':Nat) (L':List EQ) (vs:List Value) (xss:List (List Int)),s19=.int .i64 j∧j≤kn∧JI w0 w wr C nb g n L st.2 cs rows f m st Y bL (ka,kn,kc) j s7 s8 L' n' vs xss∧Blk wr Z6 109 [.string ⟨#[]⟩,.slice none 0 0,.slice none 0 0]) (fun _ _ s19 _=>kn - (intOf s19).toNat)
 case atStart=>exact ⟨0,n,L,_,_,rfl,Nat.zero_le _,hst,pR4⟩
 case round =>
  clear hst pR4 bR
  obtain ⟨j,n',L',vs,xss,rfl,hjn,hM,pR⟩:=hrel
  obtain ⟨oc,lm,nn,old,mc,ls,fo,fe,⟨fl1,fl2⟩,fs,sep,kp⟩:=hM
  obtain ⟨ta,tc,rfl⟩:=ZH fe
  by_cases hlt2:j<kn
  ·have hkj:(Zt rows m 3)[j]?=some ((Zt rows m 3).getD j 0):=by rw [List.getD,List.getElem?_eq_getElem (by omega)];rfl
   have hz:=WD (List.mem_of_getElem? hkj)
   have hnx:=HNX _ (List.mem_of_getElem? hkj)
   obtain ⟨h0k,h2k,hd,_⟩:=WL hz
   obtain ⟨k,hk⟩:∃ k:Nat,(Zt rows m 3).getD j 0=(k:Int):=⟨_,(Int.toNat_of_nonneg h0k).symm⟩
   obtain ⟨lb,lo,rfl,hc,hlb⟩:=Uz ls.ints (show j<kn from hlt2)
   rw [hk] at hkj hz hd h0k h2k hc hnx
   rw [Int.toNat_natCast] at hd
   have hk3:k<3:=by omega
   clear hk hlb
   have hsuc:=Lp (g:=g) (f:=f) (st:=st) hkj
   have hown:XX rows m (k:Int)=if (goM rows m (k:Int)).2=0 then [] else [((goM rows m (k:Int)).2,(k:Int),m.1.getD k 0)]:=by unfold XX;rw [Int.toNat_natCast]
   have HOWN:∀ x ∈ XX rows m (k:Int),okB x=true:=fun x hx=>UJ (LU hp hs hz hx)
   have howl:=RP rows m (k:Int)
   have kT:=fun (W:World) (q:Nat) (h:YB W q cs rows m)=>GU h hp hs hk3 hd
   rw [← SZ] at kT
   have kOj:=kO j
   have htj:=Pm (rows:=rows) (g:=g) (f:=f) (m:=m) (st:=st) j (by omega)
   have hcj:=JB (rows:=rows) (g:=g) (f:=f) (m:=m) (st:=st) j
   generalize XX rows m (k:Int)=ow at *
   generalize goM rows m (k:Int)=zf at *
   generalize ZO rows g f m st j=R at *
   obtain ⟨z,fl⟩:=zf
   obtain ⟨⟨fb,ff⟩,st1⟩:=R
   simp only at kT hnx hsuc hown oc lm nn fo fl2 kOj htj hcj
   obtain ⟨hzs,hzl⟩:=hnx
   have HOW:∀ x ∈ fb++ow,I3.fits x:=fun x hx=>by
    rcases List.mem_append.1 hx with h9 | h9
    ·exact VY (kOj.1.1 x h9)
    exact VY (HOWN x h9)
   have HSUC:Hid (ZO rows g f m st (j+1)=_):=hsuc
   have hlt3:(j:Int)<(kn:Int):=by omega
   have hj0:(0:Int)≤(j:Int):=by omega
   have hj9:j<3:=by omega
   generalize m.1.getD k 0=pc at *
   clear hsuc hkj hz hd
   obtain ⟨va,vc,rfl⟩:=ZH fo
   have pN:=Blk.new wr 69 [.slice none 0 0,.int .i64 0,.int .i64 0,.int .i64 0,.slice none 0 0,.int .i64 0,.int .i64 0,.int .i64 0,.slice none 0 0,.int .i64 0,.int .i64 0,.int .i64 0,.int .i64 0,.int .i64 0,.int .i64 0,.int .i64 0,.int .i64 0,.int .i64 0]
   have hbN:Below wr.heap.size wr (wr.alloc (.cells #[.slice none 0 0,.int .i64 0,.int .i64 0,.int .i64 0,.slice none 0 0,.int .i64 0,.int .i64 0,.int .i64 0,.slice none 0 0,.int .i64 0,.int .i64 0,.int .i64 0,.int .i64 0,.int .i64 0,.int .i64 0,.int .i64 0,.int .i64 0,.int .i64 0] 69)):=by go_grown
   have pM:=mc.below hbN
   go_wp2_with (first | refine Zc rfl 69 _ rfl Y rfl mc _ Tryz.underlying69 rfl (by kernel_rfl) ?_ | refine Zc rfl 69 _ rfl Y rfl pM _ Tryz.underlying69 rfl (by kernel_rfl) ?_ | refine Zd rfl 69 _ _ rfl wr.heap.size (Zi cs.1.val cs.2.1.val cs.2.2.val m) rfl rfl pN (by kernel_rfl) rfl rfl ?_)
   intro u1 p1 g1
   have pZ:=p1.out
   have bz:Below wr.heap.size wr u1:=hbN.grown g1 hbN.size (fun q e=>by cases e;exact Nat.le_refl _)
   clear p1 g1 hbN pN pM hc
   obtain ⟨Z,hZ⟩:∃ Z,Z=wr.heap.size:=⟨_,rfl⟩
   rw [← hZ] at pZ ⊢
   have hZr:wr.heap.size≤Z:=by omega
   clear hZ
   have kTx:=kT u1 Z ⟨pZ,fun q hq=>(hI q hq).below (Zb oc.base bz)⟩
   clear kT
   go_wp2_with fail
   refine kTx.mono ?_
   rintro e u2 ⟨rfl,pZ2,g2⟩
   have b2:Below wr.heap.size wr u2:=bz.grown g2 bz.size (fun q e=>by cases e;exact hZr)
   clear kTx pZ bz g2
   have pN:=Blk.new u2 90 [.int .i64 0,.int .i64 0,.int .i64 0]
   have hbN:Below u2.heap.size u2 (u2.alloc (.cells #[.int .i64 0,.int .i64 0,.int .i64 0] 90)):=by go_grown
   go_wp2_with (refine Zd rfl 90 _ _ rfl u2.heap.size [.int .i64 fl,.int .i64 (k:Int),.int .i64 pc] rfl rfl pN (by kernel_rfl) rfl rfl ?_)
   intro u3 p3 g3
   have pG:=p3.out
   have b3:Below u2.heap.size u2 u3:=hbN.grown g3 hbN.size (fun q e=>by cases e;exact Nat.le_refl _)
   replace pZ2:=pZ2.below b3
   have bz:=Zb b2 b3
   clear p3 g3 hbN pN b2 b3
   generalize u2.heap.size=G at *
   have hrz:=bz.size
   replace oc:=oc.below bz
   replace mc:=mc.below bz
   replace ls:=ls.below bz
   replace fo:=Zp fo bz
   replace fe:=Zp fe bz
   replace fs:=fs.turn (vf':=.slice va fb.length vc) (vt':=.slice ta (j+1) tc) bz.size (fun q h1 h2 h3 h4 h5=>⟨bz.block q h1,h4,h5⟩)
   replace kp:=kp.bel bz
   replace pR:=pR.below bz
   have hCZ:C≠Z:=fun e9=>by subst e9;exact absurd (oc.box.symm.trans pZ2) (by intro h9;cases h9)
   clear bz
   have cG0:u3.cell? ⟨G,0,none⟩=some (.int .i64 fl):=by simpa using pG.cell 0
   have hwr3:w.heap.size≤u3.heap.size:=kp.size
   go_upto_if 28 with fail
   go_cut [7] from 28 to 32 (fun s7 W=>Uu u3 W w.heap.size (.slice va fb.length vc) (fb++ow) s7)
   case first =>
    by_cases hf9:fl=0
    ·subst hf9
     rw [if_pos rfl] at hown
     subst hown
     have HQ:Hid (Uu u3 u3 w.heap.size (.slice va fb.length vc) (fb++[]) (.slice va fb.length vc)):=Uu.mk9 (by rw [List.append_nil];exact fo) (PD _ _) (.inl rfl)
     clear pG cG0 oc lm nn old mc ls fo fe fl1 fl2 fs sep kp pR ih kO
     go_wp2_with fail
     go_meet
     case rel=>exact HQ.out
    rw [if_neg hf9] at hown
    have hfn:(fl != 0)=true:=by simp [hf9]
    subst hown
    clear hf9 cG0 oc lm nn old mc ls fe fl1 fl2 fs sep kp pR ih kO
    go_wp2_with (first | refine Zc rfl 90 _ rfl G rfl pG _ Tryz.underlying90 rfl (by kernel_rfl) ?_ | (at_builtin;refine wpList_append_own_at _ rfl _ _ 29 rfl w.heap.size 90 i0 (.agg #[.int .i64 0,.int .i64 0,.int .i64 0]) 3 24 Tryz.underlying29 hi9 hz0 hz1 hz2 rfl (by decide) _ _ _ rfl (fo.alloc _) ⟨u3.heap.size,0,none⟩ 1 1 [.int .i64 fl,.int .i64 (k:Int),.int .i64 pc] rfl rfl (QL (Zh _ _ _ rfl)) (FE _ _ _) ?c3 ?c4 ?c5 ?_))
    case c3=>have h9:fb.length≤1+3*39:=kOj.1.2.2.1;unfold maxLen;omega
    case c4=>have h9:fb.length≤1+3*39:=kOj.1.2.2.1;omega
    case c5=>simp;omega
    intro v6 w6 q6 gr _ at6
    have ha:Below u3.heap.size u3 (u3.alloc (.cells #[.int .i64 fl,.int .i64 (k:Int),.int .i64 pc] 90)):=by go_grown
    have HQ:Hid (Uu u3 w6 w.heap.size (.slice va fb.length vc) (fb++[(fl,(k:Int),pc)]) v6):=Uu.mk9 (by rw [Nu,List.length_append];exact q6) (US ha gr) (by
     rcases at6 with h9 | h9
     ·exact .inl h9
     exact .inr ⟨_,h9,by simp⟩)
    clear ha gr at6 q6 fo pG
    go_wp2_with fail
    go_meet
    case rel=>exact HQ.out
   obtain ⟨va7,vc7,rfl,q7,g7,at7⟩:=hcut
   have hlw:(fb++ow).length≤200:=by
    have h9:fb.length≤1+3*39:=kOj.1.2.2.1
    rw [List.length_append]
    omega
   clear hown HOWN howl
   generalize fb++ow=fw at *
   have hfC:(Value.slice va fb.length vc).ownBlock≠some C:=Zo fo oc.box (by decide)
   have hfn:=oc.norow fo
   have hfw:=fun j (hj:(Value.slice va fb.length vc).ownBlock=some j)=>Yf fo hj
   have hv7:∀ q,q<u3.heap.size→(Value.slice va fb.length vc).ownBlock≠some q→(Value.slice va7 fw.length vc7).ownBlock≠some q:=fun q h1 h2 h3=>by
    rcases at7 with h9 | ⟨q9,h9,h8⟩
    ·exact h2 (h9▸h3)
    rw [h9] at h3
    cases h3
    omega
   have sep2:∀ x ∈ L',∀ q,EnB x.2 q→(Value.slice va7 fw.length vc7).ownBlock≠some q∧(Value.slice ta (j+1) tc).ownBlock≠some q:=fun x hx q hq=>⟨hv7 q ((oc.ents x hx).1.blk11 hq).1 (sep x hx q hq).1,(sep x hx q hq).2⟩
   have oc4:=oc.grow g7 hfC hfn (fun j hj=>Nat.le_trans HS0.base.size (hfw j hj).1) (fun x hx q hq=>(sep x hx q hq).1)
   replace mc:=mc.kept g7 (Zo fo mc (by decide))
   replace pZ2:=pZ2.kept g7 (Zo fo pZ2 (by decide))
   replace pR:=pR.kept g7 (Zo fo pR (by decide))
   replace ls:ZS wc bL (some ⟨lb,lo,none⟩,kn,kc) (Zt rows m 3):=World.ownsRow.kept ls g7 (Ap3.types ls fo (by decide)).or
   replace fe:wc.ownsRow w.heap.size 72 1 (.slice ta (j+1) tc) (j+1) vs:=World.ownsRow.kept fe g7 (Ap3.types fe fo (by decide)).or
   replace fs:=fs.turn (vf':=.slice va7 fw.length vc7) (vt':=.slice ta (j+1) tc) g7.size (fun q h1 h2 h3 h4 h5=>⟨g7.block q h1 (fun e=>h4 e.symm),hv7 q h1 h4,h5⟩)
   replace kp:=kp.gr g7 (fun j hj=>.inr (.inr (hfw j hj).1))
   clear at7 g7 hfC hfn hfw hv7 fo oc sep pG cG0 hrz
   have hjt:=Nat.mul_le_mul_right (VM f) (show j+1≤3 by omega)
   rw [Nat.add_mul,Nat.one_mul] at hjt
   have kV:=ih z st1 n' L' wc hzs (by omega) kOj.2 (by omega) (by omega) lm oc4
   have he:=(Vs (g:=g) hp f z st1 hzs kOj.2).1
   go_wp2_with (refine Zc rfl 69 _ rfl Z rfl pZ2 _ Tryz.underlying69 rfl (by kernel_rfl) ?_)
   refine kV.mono ?_
   rintro e u4 ⟨⟨⟨ba,bn,bc⟩,⟨za,zn,zc⟩⟩,L2,n2,rfl,hEm,hOff,hEs,oc5,lm5,nn5,old5,kp5⟩
   clear kV
   generalize Yd rows g f z st1=Q at *
   obtain ⟨⟨ek,eb,ez⟩,st2⟩:=Q
   have uE:ZU ek ((ba,bn,bc),(za,zn,zc))=.agg #[.string ek,.slice ba bn bc,.slice za zn zc]:=rfl
   simp only at oc5 lm5 nn5 he hEm hEs hOff
   simp only [uE]
   clear uE
   have hEs2:∀ q,EnB ((ba,bn,bc),(za,zn,zc)) q→(.slice va7 fw.length vc7:Value).ownBlock≠some q∧(Value.slice ta (j+1) tc).ownBlock≠some q:=fun q hq=>by
    rcases hEs q hq with h9 | ⟨x,hx,h9⟩
    ·exact ⟨fun e9=>by have:=(Yf q7 e9).2;omega,fun e9=>by have:=(Yf fe e9).2;omega⟩
    exact sep2 x hx q h9
   have sep3:∀ x ∈ L2,∀ q,EnB x.2 q→(.slice va7 fw.length vc7:Value).ownBlock≠some q∧(Value.slice ta (j+1) tc).ownBlock≠some q:=fun x hx q hq=>by
    rcases old5 x hx with h9 | h9
    ·exact sep2 x h9 q hq
    have h8:=h9 q hq
    exact ⟨fun e9=>by have:=(Yf q7 e9).2;omega,fun e9=>by have:=(Yf fe e9).2;omega⟩
   have hwc:=kp.size
   have old2:∀ x ∈ L2,x ∈ L∨∀ q,EnB x.2 q→w.heap.size≤q:=fun x hx=>by
    rcases old5 x hx with h9 | h9
    ·exact old x h9
    exact .inr (fun q hq=>Nat.le_trans hwc (h9 q hq))
   replace mc:=kp5.blk mc (Y3 mc oc4.box (by decide)) (oc4.noblk mc)
   replace pZ2:=kp5.blk pZ2 (Y3 pZ2 oc4.box (by decide)) (oc4.noblk pZ2)
   replace pR:=kp5.blk pR (Y3 pR oc4.box (by decide)) (oc4.noblk pR)
   replace ls:ZS u4 bL (some ⟨lb,lo,none⟩,kn,kc) (Zt rows m 3):=kp5.row ls (Zo ls oc4.box (by decide)) (oc4.norow ls)
   have hqC:=Zo q7 oc4.box (by decide)
   have hqn:=oc4.norow q7
   have heC:=Zo fe oc4.box (by decide)
   have hen:=oc4.norow fe
   replace q7:=kp5.row q7 hqC hqn
   replace fe:=kp5.row fe heC hen
   replace fs:=fs.turn (vf':=.slice va7 fw.length vc7) (vt':=.slice ta (j+1) tc) kp5.size (fun q h1 h2 h3 h4 h5=>⟨by
    obtain ⟨es9,cl9,hb9⟩:=oc4.any
    exact kp5.block q h1 h2 (fun e9=>h3 es9 cl9 (by rw [e9];exact hb9)),h4,h5⟩)
   replace kp:=kp.trans kp5
   clear kp5 oc4 old5 old hEs sep2 hqC hqn heC hen lm
   have pN:=Blk.new u4 109 [.string ⟨#[]⟩,.slice none 0 0,.slice none 0 0]
   have hbN:Below u4.heap.size u4 (u4.alloc (.cells #[.string ⟨#[]⟩,.slice none 0 0,.slice none 0 0] 109)):=by go_grown
   go_wp2_with (refine Zd rfl 109 _ _ rfl u4.heap.size [.string ek,.slice ba bn bc,.slice za zn zc] rfl rfl pN (by kernel_rfl) rfl rfl ?_)
   intro u5 p5 g5
   have pE:=p5.out
   have b5:Below u4.heap.size u4 u5:=hbN.grown g5 hbN.size (fun q e=>by cases e;exact Nat.le_refl _)
   clear p5 g5 hbN pN
   obtain ⟨E,hEE⟩:∃ E,E=u4.heap.size:=⟨_,rfl⟩
   rw [← hEE] at pE ⊢
   clear hEE
   go_wp2_with fail
   have hdr:Below u5.heap.size u5 u5.drew:=by go_grown
   have cE1:u5.cell? ⟨E,1,none⟩=some (.slice ba bn bc):=by simpa using pE.cell 1
   refine wp_region_held_drew (S:=(fun w'=>w'.cell? ⟨E,1,none⟩=some (.slice ba bn bc))) (by kernel_rfl) cE1 (fun hS0=>?_)
   refine tkm 0 36 (.slice va7 fw.length vc7) ?_
   refine tkm 2 38 (.pointer (some ⟨E,1,none⟩)) ?_
   refine tkm 3 39 (.slice ba bn bc) ?_

   replace oc5:=oc5.below b5
   replace mc:=mc.below b5
   replace pZ2:=pZ2.below b5
   replace pR:=pR.below b5
   replace ls:=ls.below b5
   replace q7:=Zp q7 b5
   replace fe:=Zp fe b5
   replace fs:=fs.turn (vf':=.slice va7 fw.length vc7) (vt':=.slice ta (j+1) tc) b5.size (fun q h1 h2 h3 h4 h5=>⟨b5.block q h1,h4,h5⟩)
   replace hEm:=hEm.below b5
   replace kp:=kp.bel b5
   clear b5
   have bV:=hdr
   have hb0:=oc5.base
   have hwu5:=kp.size
   generalize u5.drew=V at *
   have kD:=Sb (Mo Z cs rows z V ⟨pZ2.below bV,fun k hk=>(hI k hk).below (Zb hb0 bV)⟩ hp hzs)
   rw [show (if Wq rows z then [((14:Int),(0:Int),(0:Int))] else [])=Zw rows z from rfl] at kD
   refine tkr 1 37 (fun K hK=>?_)
   go_simp
   refine kD.mono ?_
   rintro e V1 ⟨⟨vd,rfl,qd⟩,hb1⟩
   obtain ⟨da,dc,rfl⟩:=ZH qd
   go_wp2_with fail
   refine hK.out _ _ (Za hb1 _ _ hS0) (fun hS1=>?_)
   clear hK kD
   replace bV:=Zb bV hb1
   try simp only [Act.put,tka,tkb,tkc]
   refine tkr 4 40 (fun K hK=>?_)
   have hal:Below V1.heap.size V1 (V1.alloc (.cells #[.slice va7 fw.length vc7,.slice da (Zw rows z).length dc,.slice ba bn bc] 29)):=by go_grown
   have pQ:Blk (V1.alloc (.cells #[.slice va7 fw.length vc7,.slice da (Zw rows z).length dc,.slice ba bn bc] 29)) V1.heap.size 29 [.slice va7 fw.length vc7,.slice da (Zw rows z).length dc,.slice ba bn bc]:=Zh _ _ _ rfl
   go_simp
   refine hK.out _ _ (Za hal _ _ hS1) (fun hS2=>?_)
   clear hK
   replace qd:=Zp qd hal
   replace bV:=Zb bV hal
   clear hal hb1
   generalize (V1.alloc (.cells #[.slice va7 fw.length vc7,.slice da (Zw rows z).length dc,.slice ba bn bc] 29))=V2 at *
   generalize V1.heap.size=q1 at *
   try simp only [Act.put,tka,tkb,tkc]
   obtain ⟨_,_,e9,iF,gF,_⟩:=Wt (Zp q7 bV) (fun x hx=>HOW x hx)
   cases e9
   obtain ⟨_,_,e9,iD,gD,_⟩:=Wt qd (fun x hx=>VY (UJ (Rj (rows:=rows) hx)))
   cases e9
   have iB:=(hEm.below bV).2.1
   have hbn:bn=eb.length:=iB.1.symm
   have hb37:eb.length≤37:=he.bugs
   have hd1:=VQ rows z
   have c0:V2.cell? ⟨q1,0,none⟩=some (.slice va7 fw.length vc7):=by simpa using pQ.cell 0
   have c1:V2.cell? ⟨q1,1,none⟩=some (.slice da (Zw rows z).length dc):=by simpa using pQ.cell 1
   have c2:V2.cell? ⟨q1,2,none⟩=some (.slice ba bn bc):=by simpa using pQ.cell 2
   have kC:=MK q1 va7 fw.length vc7 fw da (Zw rows z).length dc (Zw rows z) ba bn bc eb V2 iF iD iB (by omega) (by omega) (by omega) gF gD hOff.1 c0 c1 c2
   clear iF iD iB gF gD c0 c1 c2 pQ
   refine tkr 5 41 (fun K hK=>?_)
   go_simp
   refine kC.mono ?_
   rintro e V3 ⟨⟨v9,rfl,⟨na,nn9,nc,rfl⟩,q9⟩,hb3⟩
   go_wp2_with fail
   refine hK.out _ _ (Za hb3 _ _ hS2) (fun hS3=>?_)
   clear hK kC
   try simp only [Act.put,tka,tkb,tkc]
   refine tkm 6 7 (.slice na nn9 nc) ?_
   refine wpAnyH_done (by kernel_rfl) ?_ _
   clear hS0 hS1 hS2 hS3
   have hV2:=bV.size
   replace bV:=Zb bV hb3
   replace q9:V3.ownsRow V2.heap.size 90 3 (.slice na nn9 nc) (fw++Zw rows z++eb).length (Zk (fw++Zw rows z++eb)):=by
    have e9:fw.length+(Zw rows z).length+bn=(fw++Zw rows z++eb).length:=by rw [hbn];simp only [List.length_append]
    rw [e9] at q9
    exact q9
   clear hb3 qd q7
   have hvn:∀ q,q<u5.heap.size→(Value.slice na nn9 nc).ownBlock≠some q:=fun q h1 h2=>by
    have:=(Yf q9 h2).1
    omega
   have hsep5:∀ x ∈ L2,∀ q,EnB x.2 q→(Value.slice na nn9 nc).ownBlock≠some q:=fun x hx q hq=>hvn q ((oc5.ents x hx).1.blk11 hq).1
   replace oc5:=oc5.below bV
   replace mc:=mc.below bV
   replace pR:=pR.below bV
   replace ls:=ls.below bV
   replace fe:=Zp fe bV
   replace fs:=fs.turn (vf':=.slice na nn9 nc) (vt':=.slice ta (j+1) tc) bV.size (fun q h1 h2 h3 h4 h5=>⟨bV.block q h1,hvn q h1,h5⟩)
   have hEb:=fun q (hq:EnB ((ba,bn,bc),(za,zn,zc)) q)=>hvn q (hEm.blk11 hq).1

   have hEb2:=fun q (hq:EnB ((ba,bn,bc),(za,zn,zc)) q)=>(hEs2 q hq).2
   have sep4:∀ x ∈ L2,∀ q,EnB x.2 q→(Value.slice na nn9 nc).ownBlock≠some q∧(Value.slice ta (j+1) tc).ownBlock≠some q:=fun x hx q hq=>⟨hsep5 x hx q hq,(sep3 x hx q hq).2⟩
   replace hEm:=hEm.below bV
   have cE2:V3.cell? ⟨E,2,none⟩=some (.slice za zn zc):=by simpa using (pE.below bV).cell 2
   replace kp:=kp.bel bV
   have hV3:=kp.size
   replace q9:=ZT q9 (Nat.le_trans hwu5 hV2)
   clear bV hV2 hvn hEs2 sep3 hsep5 pE pZ2 hb0 hb37 hd1 hbn hwu5
   go_wp2_with (at_builtin;go_loud (refine wpList_append_own_at _ rfl _ _ 83 rfl w.heap.size 72 j0 (.slice none 0 0) 1 24 Tryz.underlying83 hjI hy0 hy1 hy2 rfl (by decide) _ _ _ rfl (fe.alloc _) ⟨V3.heap.size,0,none⟩ 1 1 [.slice za zn zc] rfl rfl (cell_one_new _ _ _) (by simp [Value.oneCell']) ?c3 ?c4 ?c5 ?_))
   case c3=>unfold maxLen;omega
   case c4=>omega
   case c5=>simp;omega
   intro vt2 u6 q6 g6 _ at6
   have ha:Below V3.heap.size V3 (V3.alloc (.cells #[.slice za zn zc] 72)):=by go_grown
   have hsz6:(V3.alloc (.cells #[.slice za zn zc] 72)).heap.size=V3.heap.size+1:=by simp
   have gg:=US ha g6
   have htC:(Value.slice ta (j+1) tc).ownBlock≠some C:=Zo fe oc5.box (by decide)
   have htn:=oc5.norow fe
   have htw:=fun j9 (hj:(Value.slice ta (j+1) tc).ownBlock=some j9)=>Yf fe hj
   have hv9:∀ q,q<V3.heap.size→(Value.slice ta (j+1) tc).ownBlock≠some q→vt2.ownBlock≠some q:=fun q h1 h2 h3=>by
    rcases at6 with h9 | h9
    ·exact h2 (h9▸h3)
    rw [h9] at h3
    have h8:=Option.some.inj h3
    omega
   have oc6:=oc5.grow gg htC htn (fun j9 hj=>Nat.le_trans HS0.base.size (htw j9 hj).1) (fun x hx q hq=>(sep4 x hx q hq).2)
   replace mc:=mc.kept gg (Zo fe mc (by decide))
   replace pR:=pR.kept gg (Zo fe pR (by decide))
   replace ls:ZS u6 bL (some ⟨lb,lo,none⟩,kn,kc) (Zt rows m 3):=World.ownsRow.kept ls gg (Ap3.types ls fe (by decide)).or
   have q10:u6.ownsRow w.heap.size 90 3 (.slice na nn9 nc) (fw++Zw rows z++eb).length (Zk (fw++Zw rows z++eb)):=World.ownsRow.kept q9 gg (Ap3.types q9 fe (by decide)).or
   have fs2:=fs.turn (vf':=.slice na nn9 nc) (vt':=vt2) gg.size (fun q h1 h2 h3 h4 h5=>⟨gg.block q h1 (fun e=>h5 e.symm),h4,hv9 q h1 h5⟩)
   have iZ:ZW .i64 u6 za zn zc ez:=hEm.2.2.1.same11 gg.size (fun q hq=>gg.block q (hEm.blk11 (.inr hq)).1 (fun e=>hEb2 q (.inr hq) e.symm))
   have fs3:=fs2.snoc (v:=.slice za zn zc) (xs:=ez) ⟨za,zn,zc,rfl,iZ,fun q hq=>⟨hOff.2 q (.inr hq),hEb q (.inr hq),hv9 q (hEm.blk11 (.inr hq)).1 (hEb2 q (.inr hq))⟩⟩
   have sep6:∀ x ∈ L2,∀ q,EnB x.2 q→(Value.slice na nn9 nc).ownBlock≠some q∧vt2.ownBlock≠some q:=fun x hx q hq=>⟨(sep4 x hx q hq).1,hv9 q ((oc5.ents x hx).1.blk11 hq).1 (sep4 x hx q hq).2⟩
   replace kp:=kp.gr gg (fun j9 hj=>.inr (.inr (htw j9 hj).1))
   have st9:JI w0 w u6 C nb g n L st.2 cs rows f m st Y bL (some ⟨lb,lo,none⟩,kn,kc) (j+1) (.slice na nn9 nc) vt2 L2 n2 (vs++[.slice za zn zc]) (xss++[ez]):=by
    have e9:=HSUC.out
    refine ⟨by rw [e9];exact oc6,by rw [e9];exact lm5,by rw [e9];show n2+st.2≤n+st2.2;omega,old2,mc,ls,by rw [e9];exact q10,q6,⟨by rw [List.length_append,fl1];rfl,by rw [e9,List.flatten_append,fl2];simp⟩,fs3,sep6,kp⟩
   clear oc6 mc ls q10 fs2 iZ fs3 sep6 kp hv9 htC htn htw gg ha g6 at6 q6 q9 fe fs hEb hEb2 sep4 cE2 hEm oc5 hOff
   go_wp2
   go_roundw
   case rel=>exact ⟨j+1,n2,L2,_,_,by go_num,by omega,st9,pR⟩
   case measure=>simp [intOf];omega
  obtain rfl:j=kn:=by omega
  have e3:ZO rows g f m st 3=ZO rows g f m st j:=by rw [T5 (by omega),T5 (by omega)]
  have kOj:=(kO j).1
  have htw:=fun j9 (hj:(Value.slice ta (j+1) tc).ownBlock=some j9)=>Yf fe hj
  have HRES:Hid (∀ (x:Ending) (w':World),Ps x w0 w w' C nb g n L st.2 (Vl m (ZO rows g f m st j),(ZO rows g f m st j).2)→Ps x w0 w w' C nb g n L st.2 (Vl m (ZO rows g f m st 3),(ZO rows g f m st 3).2)):=fun x w' h=>by rw [e3];exact h
  clear e3
  generalize ZO rows g f m st j=R at *
  obtain ⟨⟨fb,ff⟩,st1⟩:=R
  simp only at oc lm nn fo fl2 kOj
  obtain ⟨va,vc,rfl⟩:=ZH fo
  obtain ⟨_,_,e9,iF,gF,_⟩:=Wt fo (fun x hx=>VY (kOj.1 x hx))
  cases e9
  have hfl:fb.length≤1+3*39:=kOj.2.2.1
  have hfl2:ff.length≤3+3*23:=kOj.2.2.2
  have hkw:=kp.size
  have hCw:C<w.heap.size:=HS0.box.lt
  have kB:=Qy va fb.length vc fb none 0 0 [] wr iF ⟨rfl,Nat.le_refl _,by unfold maxLen;omega,by simp,.inl rfl⟩ (by omega) (by omega) gF ⟨fun _=>rfl,fun x hx=>by cases hx⟩
  have iT:=Uo.own fe fl1 fs.allL
  have hge:¬ (j:Int)<(j:Int):=by omega
  clear fo iF gF fs sep mc ls ih kO HNX
  go_wp2_with fail
  refine kB.mono ?_
  rintro e w5 ⟨⟨vb,rfl,qb⟩,hb⟩
  have kM:=K4 ta (j+1) tc xss w5 (iT.below hb) (by omega) (by rw [fl2];omega) (fun x hx=>S0 (kOj.2.1 x (by rw [fl2] at hx;exact hx)))
  replace qb:=ZT qb hkw
  obtain ⟨ba,bc,rfl⟩:=ZH qb
  replace oc:=oc.below hb
  replace kp:=kp.bel hb
  replace pR:=pR.below hb
  clear hb kB iT fe
  have hkw5:=kp.size
  go_wp2_with fail
  refine kM.mono ?_
  rintro e w6 ⟨⟨vz,rfl,qz⟩,hb⟩
  rw [fl2] at qz
  replace qz:=ZT qz hkw5
  obtain ⟨za,zc,rfl⟩:=ZH qz
  replace qb:=Zp qb hb
  replace oc:=oc.below hb
  replace kp:=kp.bel hb
  replace pR:=pR.below hb
  clear hb kM
  go_wp2_with (refine Zd rfl 109 _ _ rfl Z6 [.string key,.slice ba (ZG fb []).length bc,.slice za (YK ff).length zc] rfl rfl pR (by kernel_rfl) rfl rfl ?_)
  intro u9 p9 g9
  have pZ:=p9.out
  have hZC:Z6≠C:=Y3 pR oc.box (by decide)
  have hZn:=oc.noblk pR
  have hXZ:∀ x ∈ L',∀ q,EnB x.2 q→q≠Z6:=fun x hx q hq=>(oc.ents x hx).1.off11 hq pR (Ye ⟨#[]⟩ ((none,0,0),(none,0,0)))
  have oc9:=oc.grow g9 (fun e=>hZC (by cases e;rfl)) (fun e=>hZn (by cases e;rfl)) (fun j9 e=>by cases e;exact Nat.le_trans HS0.base.size hZw) (fun x hx q hq e=>hXZ x hx q hq (by cases e;rfl))
  have kp9:=kp.gr g9 (fun j9 e=>.inr (.inr (by cases e;exact hZw)))
  have qb9:=World.ownsRow.kept qb g9 (.inr (Zo qb pR (by decide)))
  have qz9:=World.ownsRow.kept qz g9 (.inr (Zo qz pR (by decide)))
  obtain ⟨_,_,e9,iB,gB,oB⟩:=Wt qb9 (fun x hx=>VY (by
   rcases Xc.1 hx with h9 | h9
   ·exact kOj.1 x h9
   cases h9))
  cases e9
  obtain ⟨_,_,e9,iZ,gZ,oZ⟩:=U8 qz9
  cases e9
  have hwf:∀ y ∈ YK ff,(Lit.int .i64 y).wf=true:=fun y hy=>S0 (kOj.2.1 y ((WP _ y).1 hy))
  have HR9:Hid (Ps (.returned (.agg #[.string key,.slice ba (ZG fb []).length bc,.slice za (YK ff).length zc])) w0 w u9 C nb g n L st.2 (Vl m (ZO rows g f m st 3),(ZO rows g f m st 3).2)):=by
   refine HRES.out _ _ ⟨((ba,(ZG fb []).length,bc),(za,(YK ff).length,zc)),L',n',by rw [HKEY.out];rfl,⟨⟨by rw [← show ZC m=(Vl m ((fb,ff),st1)).1 from rfl,← HKEY.out];exact hks,gB.1,gZ.1⟩,iB,iZ,hwf⟩,⟨gB,fun j9 hj=>?_⟩,fun j9 hj=>?_,oc9,lm,nn,old,kp9⟩
   ·rcases hj with hj | hj
    ·have:=(Yf qb9 (oB j9 hj)).1
     omega
    have:=(Yf qz9 (oZ j9 hj)).1
    omega
   rcases hj with hj | hj
   ·exact (Yf qb9 (oB j9 hj)).1
   exact (Yf qz9 (oZ j9 hj)).1
  have q0:=pZ.cell 0
  have q1:=pZ.cell 1
  have q2:=pZ.cell 2
  simp only [List.getElem?_cons_zero,List.getElem?_cons_succ] at q0 q1 q2
  clear oc9 kp9 qb9 qz9 iB gB oB iZ gZ oZ hwf pZ pR oc kp qb qz g9 HRES hXZ
  go_wp2
  refine bodyPost_ret (by simp [results,Tryz.results109,go_sem,q0,q1,q2];try rfl) rfl ?_
  exact HR9.out


theorem UG (w:World):(zeroValue 109).run Tryz.prog w=.ok (.agg #[.string ⟨#[]⟩,.slice none 0 0,.slice none 0 0]) w:=by kernel_rfl
def GV (Q:Exit→Act→World→Prop) (e:Exit) (a:Act) (w:World):Prop:=match e with
 | .normal=>Q .normal a w
 | _=>False
theorem Hi {Q:Exit→Act→World→Prop}:∀ e a w,GV Q e a w→Q e a w:=by
 intro e a w h
 cases e<;>first | exact h | exact h.elim
theorem Hh {Q:Exit→Act→World→Prop} {a:Act} {w:World} (h:Q .normal a w):GV Q .normal a w:=h
theorem Pg {P:Program} {fn:Func} {R:Ending→World→Prop} {a:Act} {w:World} {v:Value} (hd:a.defers=[]) (hr:(results fn a.tmps).run P w=.ok v w) (hR:R (.returned v) w):bodyPostD P fn R .ret a w:=by
 show Leaves P fn a.tmps R a.defers .returning w
 rw [hd]
 exact ⟨v,hr,hR⟩
def JG (V W:World) (cells:List Value) (b:Bool) (s6 s7:Value):Prop:=∃ Q,s6=.pointer (some ⟨Q,0,none⟩)∧s7=.bool b∧Blk W Q 109 cells∧Below V.heap.size V W∧V.heap.size≤Q
theorem Qf {rows:List (List I3)} {g f:Nat} {m:V4} {st:ZB} (h:isE st.1 (ZC m)=true):Yd rows g (f+1) m st=(Vc st.1 (ZC m),st):=by unfold Yd;rw [if_pos h]
theorem Po {rows:List (List I3)} {g f:Nat} {m:V4} {st:ZB} (h:isE st.1 (ZC m)=false) (h2:2000<g+(st.2+1)):Yd rows g (f+1) m st=(e3d,(st.1,st.2+1)):=by unfold Yd;rw [h,if_neg (by simp),if_pos h2]
theorem Pn {rows:List (List I3)} {g f:Nat} {m:V4} {st:ZB} (h:isE st.1 (ZC m)=false) (h2:¬ 2000<g+(st.2+1)):Yd rows g (f+1) m st=(Vl m (ZO rows g f m (st.1,st.2+1) 3),(Wy (ZO rows g f m (st.1,st.2+1) 3).2.1 (Vl m (ZO rows g f m (st.1,st.2+1) 3)),(ZO rows g f m (st.1,st.2+1) 3).2.2)):=by
 unfold Yd
 rw [h,if_neg (by simp),if_neg h2,T5 (Xh rows m 3)]
theorem GA {D:DataW Value} {L:List EQ} (hG:Un D L) (key:ByteArray) (z:Value):∃ (k9:ByteArray) (s:Sl2),(isE (L.map (·.1)) key=true→(Vc (L.map (·.1)) key,s) ∈ L∧(Vc (L.map (·.1)) key).1=key∧k9=key∧D.atKey (Ve key) (.held z)=.held (ZU k9 s))∧(isE (L.map (·.1)) key=false→z=ZU ⟨#[]⟩ ((none,0,0),(none,0,0))→D.atKey (Ve key) (.held z)=.held (ZU k9 s)∧k9=⟨#[]⟩∧s=((none,0,0),(none,0,0))):=by
 by_cases h:isE (L.map (·.1)) key=true
 ·obtain ⟨s,h1,h2,h3⟩:=hG.found h
  exact ⟨key,s,fun _=>⟨h1,h2,rfl,h3 _⟩,fun h9=>by rw [h] at h9;cases h9⟩
 refine ⟨⟨#[]⟩,((none,0,0),(none,0,0)),fun h9=>absurd h9 h,fun h9 hz=>⟨?_,rfl,rfl⟩⟩
 rw [Maps.atKey_of_not_has (by rw [hG.has];exact h9),hz]
theorem Lr {rows:List (List I3)} {g:Nat} {w0:World} {C nb:Nat} {cs:Sl × Sl × Sl} (hp:Zq rows=true) (hg:g≤2000) (hV:ZQ w0) (hI:∀ k,k<3→Zj w0 (slK cs k).1 (slK cs k).2.1 (slK cs k).2.2 (Xn rows k)) {f:Nat} (ih:Pv rows g w0 C nb cs f):Pv rows g w0 C nb cs (f+1):=by
 intro m st n L w hs hf hE ht hn hL hO
 have hmf:∀ (fn:Fn) (first cap:Array Value) (w:World),(Instr.makeFunc fn first cap).run Tryz.prog w=.ok (.func fn first cap) w:=fun _ _ _ _=>rfl
 have htf:VM (f+1)=1+3*VM f:=rfl
 rw [htf] at ht
 obtain ⟨D,hm,hG⟩:=hO.map
 obtain ⟨key,hkey⟩:∃ key,key=ZC m:=⟨_,rfl⟩
 have hks:key.size≤maxLen:=by rw [hkey,WN hs];unfold maxLen;omega
 have hkl:keyOf Tryz.prog 9 (.string key)=some (Ve key):=WideMaps.keyOf_string_mk Tryz.underlying9 hks
 have HN:=fun (W:World)=>MI hp hg hV hI ih m (st.1,st.2+1) n L W hs hf hE (by show st.2+1+3*VM f≤600000000;omega) (by show n+1≤g+(st.2+1);omega) hL
 rw [← hkey] at HN
 have kK:=fun (W:World) (q:Nat) (h:Blk W q 69 (Zi cs.1.val cs.2.1.val cs.2.2.val m)) (hV:ZQ W)=>GG (cs:=cs) h hs hV
 rw [← hkey] at kK
 obtain ⟨k9,⟨⟨s1a,s1n,s1c⟩,⟨s2a,s2n,s2c⟩⟩,hY9,hN9⟩:=GA hG key (.agg #[.string ⟨#[]⟩,.slice none 0 0,.slice none 0 0])
 rw [hL] at hY9 hN9
 obtain ⟨bb,hbb9⟩:∃ bb,bb=isE st.1 key:=⟨_,rfl⟩
 rw [← hbb9] at hY9 hN9
 have HV:Hid (∀ v ps,Vq v=some (D.atKey (Ve key) (.held (.agg #[.string ⟨#[]⟩,.slice none 0 0,.slice none 0 0])),ps)→v=.agg #[.string k9,.slice s1a s1n s1c,.slice s2a s2n s2c]∧Maps.has D (Ve key)=bb):=by
  intro v ps hv
  refine ⟨?_,by rw [hG.has,hL,hbb9]⟩
  unfold Vq at hv
  injection hv with hv
  injection hv with hv _
  cases hq:bb
  ·have h9:=(hN9 hq rfl).1
   rw [h9] at hv
   injection hv
  have h9:=(hY9 hq).2.2.2
  rw [h9] at hv
  injection hv
 have HKEY:Hid (key=ZC m):=hkey
 have HBB:Hid (bb=isE st.1 (ZC m)):=by rw [Hid,hbb9,hkey]
 clear hkey hbb9
 have hCw:C<w.heap.size:=hO.box.lt
 obtain ⟨x0,x1,x2,x3,x4,x5,x6,x7,x8,x9,x10,x11,x12,x13,x14,x15,x16,x17,hMC⟩:∃ x0 x1 x2 x3 x4 x5 x6 x7 x8 x9 x10 x11 x12 x13 x14 x15 x16 x17:Value,Zi cs.1.val cs.2.1.val cs.2.2.val m=[x0,x1,x2,x3,x4,x5,x6,x7,x8,x9,x10,x11,x12,x13,x14,x15,x16,x17]:=⟨_,_,_,_,_,_,_,_,_,_,_,_,_,_,_,_,_,_,rfl⟩
 have HMC:Hid (Zi cs.1.val cs.2.1.val cs.2.2.val m=[x0,x1,x2,x3,x4,x5,x6,x7,x8,x9,x10,x11,x12,x13,x14,x15,x16,x17]):=hMC
 rw [hMC]
 have bw:Below w.heap.size w (((w.alloc (.cells #[.pointer (some ⟨C,0,none⟩)] 182)).alloc (.cells #[x0,x1,x2,x3,x4,x5,x6,x7,x8,x9,x10,x11,x12,x13,x14,x15,x16,x17] 69)).alloc (.cells #[.string ⟨#[]⟩,.slice none 0 0,.slice none 0 0] 109)):=by go_grown
 have pC:Blk (((w.alloc (.cells #[.pointer (some ⟨C,0,none⟩)] 182)).alloc (.cells #[x0,x1,x2,x3,x4,x5,x6,x7,x8,x9,x10,x11,x12,x13,x14,x15,x16,x17] 69)).alloc (.cells #[.string ⟨#[]⟩,.slice none 0 0,.slice none 0 0] 109)) w.heap.size 182 [.pointer (some ⟨C,0,none⟩)]:=Zf _ (Zf _ (Zh _ _ _ rfl))
 have pM:Blk (((w.alloc (.cells #[.pointer (some ⟨C,0,none⟩)] 182)).alloc (.cells #[x0,x1,x2,x3,x4,x5,x6,x7,x8,x9,x10,x11,x12,x13,x14,x15,x16,x17] 69)).alloc (.cells #[.string ⟨#[]⟩,.slice none 0 0,.slice none 0 0] 109)) (w.heap.size+1) 69 [x0,x1,x2,x3,x4,x5,x6,x7,x8,x9,x10,x11,x12,x13,x14,x15,x16,x17]:=Zf _ (Zh _ _ _ (by simp))
 have pE:Blk (((w.alloc (.cells #[.pointer (some ⟨C,0,none⟩)] 182)).alloc (.cells #[x0,x1,x2,x3,x4,x5,x6,x7,x8,x9,x10,x11,x12,x13,x14,x15,x16,x17] 69)).alloc (.cells #[.string ⟨#[]⟩,.slice none 0 0,.slice none 0 0] 109)) (w.heap.size+1+1) 109 [.string ⟨#[]⟩,.slice none 0 0,.slice none 0 0]:=Zh _ _ _ (by simp)
 clear hMC
 go_enter_defers Tryz.func52,Tryz.ntmps52
 go_wp2_with fail
 generalize (((w.alloc (.cells #[.pointer (some ⟨C,0,none⟩)] 182)).alloc (.cells #[x0,x1,x2,x3,x4,x5,x6,x7,x8,x9,x10,x11,x12,x13,x14,x15,x16,x17] 69)).alloc (.cells #[.string ⟨#[]⟩,.slice none 0 0,.slice none 0 0] 109))=U at *
 rw [← HMC.out] at pM
 have kKx:=kK U _ pM (hV.below (Zb hO.base bw))
 refine kKx.mono ?_
 rintro e w1 ⟨rfl,hb⟩
 replace bw:=Zb bw hb
 replace pC:=pC.below hb
 replace pM:=pM.below hb
 replace pE:=pE.below hb
 clear hb kK kKx
 obtain ⟨X4,hX4⟩:∃ X4,X4=w.heap.size+1+1:=⟨_,rfl⟩
 rw [← hX4] at pE ⊢
 obtain ⟨X3,hX3⟩:∃ X3,X3=w.heap.size+1:=⟨_,rfl⟩
 rw [← hX3] at pM ⊢
 obtain ⟨X2,hX2⟩:∃ X2,X2=w.heap.size:=⟨_,rfl⟩
 rw [← hX2] at pC ⊢
 have hX2w:w.heap.size≤X2:=by omega
 have hX3w:w.heap.size≤X3:=by omega
 have hX4w:w.heap.size≤X4:=by omega
 clear hX2 hX3 hX4
 have hal:Below w1.heap.size w1 (w1.alloc (.cells #[.string key] 9)):=by go_grown
 have pK:Blk (w1.alloc (.cells #[.string key] 9)) w1.heap.size 9 [.string key]:=Zh _ _ _ rfl
 go_wp2_with fail
 have hX5w:=bw.size
 replace bw:=Zb bw hal
 replace pC:=pC.below hal
 replace pM:=pM.below hal
 replace pE:=pE.below hal
 clear hal
 generalize (w1.alloc (.cells #[.string key] 9))=V1 at *
 generalize w1.heap.size=X5 at *
 have oc:=hO.below bw
 have hm1:V1.ownsMap Tryz.prog 9 Vq nb n D:=hm.kept (row:=none) ⟨bw.os,bw.tape,bw.output,bw.size,fun k hk _=>bw.block k hk⟩ (by simp)
 go_cut [6,7] from 9 to 17 (fun s6 s7 W=>JG V1 W [.string k9,.slice s1a s1n s1c,.slice s2a s2n s2c] bb s6 s7)
 ·refine wp_mono ?_ Hi
  refine wp_region_held_drew (S:=(fun w'=>w'.cell? ⟨X2,0,none⟩=some (.pointer (some ⟨C,0,none⟩))∧w'.cell? ⟨C,0,none⟩=some (.map (some nb))∧w'.cell? ⟨X5,0,none⟩=some (.string key))) (by kernel_rfl) ⟨by simpa using pC.cell 0,by simpa using oc.box.cell 0,by simpa using pK.cell 0⟩ (fun hS0=>?_)
  have hX2V:=pC.lt
  have hCV:=oc.box.lt
  have hX5V:=pK.lt
  refine tkm 0 10 (.pointer (some ⟨C,0,none⟩)) ?_
  refine tkm 1 11 (.pointer (some ⟨C,0,none⟩)) ?_
  refine tkm 2 12 (.pointer (some ⟨C,0,none⟩)) ?_
  refine tkm 3 13 (.map (some nb)) ?_
  refine tkm 4 14 (.string key) ?_
  have hmV:V1.drew.ownsMap Tryz.prog 9 Vq nb n D:=hm1.drew
  have hV1:Below V1.heap.size V1 V1.drew:=by go_grown
  have hVs:V1.drew.heap.size=V1.heap.size:=rfl
  rw [← hVs] at hX2V hCV hX5V
  clear hVs
  generalize V1.drew=V at *
  clear HN pC pM pE pK oc hO hm1 hm bw ih
  refine wpAnyH_ready (rs:=[5,9]) (by kernel_rfl) (by simp) ?_
  refine AllReadyH.cons (o:=⟨some 15,_,_,_,_,_⟩) rfl (fun K hK=>?_) (AllReadyH.cons (o:=⟨some 6,_,_,_,_,_⟩) rfl (fun K hK=>?_) AllReadyH.nil)
  focus
   refine SE rfl _ _ 104 rfl 9 109 WE Tryz.underlying104 Vq (UG _) (.held (.agg #[.string ⟨#[]⟩,.slice none 0 0,.slice none 0 0])) [] rfl nb n D rfl hmV _ (Ve key) rfl hkl ?_
   intro v9 ps9 hv9
   have hv8:=HV.out v9 ps9 hv9
   clear hv9
   obtain ⟨rfl,hbb⟩:=hv8
   rw [hbb]
   refine hK.out _ _ hS0 (fun hS1=>?_)
   clear hK
   try simp only [Act.put,tka,tkb,tkc]
   refine tkm 6 9 (.tuple #[.agg #[.string k9,.slice s1a s1n s1c,.slice s2a s2n s2c],.bool bb]) ?_
   refine tkm 7 16 (.agg #[.string k9,.slice s1a s1n s1c,.slice s2a s2n s2c]) ?_
   refine tkm 8 17 (.bool bb) ?_
   refine tkr 9 6 (fun K hK=>?_)
   have hal:Below V.heap.size V (V.alloc (.cells #[.string ⟨#[]⟩,.slice none 0 0,.slice none 0 0] 109)):=by go_grown
   have pQ:Blk (V.alloc (.cells #[.string ⟨#[]⟩,.slice none 0 0,.slice none 0 0] 109)) V.heap.size 109 [.string ⟨#[]⟩,.slice none 0 0,.slice none 0 0]:=Zh _ _ _ rfl
   go_simp
   refine hK.out _ _ ⟨Za hal _ _ hS1.1,Za hal _ _ hS1.2.1,Za hal _ _ hS1.2.2⟩ (fun hS2=>?_)
   clear hK
   generalize (V.alloc (.cells #[.string ⟨#[]⟩,.slice none 0 0,.slice none 0 0] 109))=V2 at *
  rotate_left
  focus
   have hal:Below V.heap.size V (V.alloc (.cells #[.string ⟨#[]⟩,.slice none 0 0,.slice none 0 0] 109)):=by go_grown
   have pQ:Blk (V.alloc (.cells #[.string ⟨#[]⟩,.slice none 0 0,.slice none 0 0] 109)) V.heap.size 109 [.string ⟨#[]⟩,.slice none 0 0,.slice none 0 0]:=Zh _ _ _ rfl
   have hm2:=hmV.alloc (.cells #[.string ⟨#[]⟩,.slice none 0 0,.slice none 0 0] 109)
   go_simp
   refine hK.out _ _ ⟨Za hal _ _ hS0.1,Za hal _ _ hS0.2.1,Za hal _ _ hS0.2.2⟩ (fun hS1=>?_)
   clear hK
   generalize (V.alloc (.cells #[.string ⟨#[]⟩,.slice none 0 0,.slice none 0 0] 109))=V2 at *
   try simp only [Act.put,tka,tkb,tkc]
   refine tkr 5 15 (fun K hK=>?_)
   refine SE rfl _ _ 104 rfl 9 109 WE Tryz.underlying104 Vq (UG _) (.held (.agg #[.string ⟨#[]⟩,.slice none 0 0,.slice none 0 0])) [] rfl nb n D rfl hm2 _ (Ve key) rfl hkl ?_
   intro v9 ps9 hv9
   have hv8:=HV.out v9 ps9 hv9
   clear hv9
   obtain ⟨rfl,hbb⟩:=hv8
   rw [hbb]
   refine hK.out _ _ hS1 (fun hS2=>?_)
   clear hK
   try simp only [Act.put,tka,tkb,tkc]
   refine tkm 6 9 (.tuple #[.agg #[.string k9,.slice s1a s1n s1c,.slice s2a s2n s2c],.bool bb]) ?_
   refine tkm 7 16 (.agg #[.string k9,.slice s1a s1n s1c,.slice s2a s2n s2c]) ?_
   refine tkm 8 17 (.bool bb) ?_
  all_goals
   obtain ⟨Q,hQ⟩:∃ Q,Q=V.heap.size:=⟨_,rfl⟩
   rw [← hQ] at pQ ⊢
   have hQV:V.heap.size≤Q:=by omega
   have hX2Q:X2≠Q:=by omega
   have hCQ:C≠Q:=by omega
   have hX5Q:X5≠Q:=by omega
   clear hQ
   try simp only [Act.put,tka,tkb,tkc]
   refine tkz 10 (fun K hK=>?_)
   refine Zl rfl 109 _ _ rfl Q [.string k9,.slice s1a s1n s1c,.slice s2a s2n s2c] rfl rfl pQ (by kernel_rfl) rfl rfl ?_
   intro V3 p3 g3
   refine hK.out _ _ ⟨Zn g3 hS2.1 (fun e=>hX2Q (by injection e)),Zn g3 hS2.2.1 (fun e=>hCQ (by injection e)),Zn g3 hS2.2.2 (fun e=>hX5Q (by injection e))⟩ (fun hS3=>?_)
   clear hK
   try simp only [Act.put,tka,tkb,tkc]
   refine tkm 11 7 (.bool bb) ?_
   refine wpAnyH_done (by kernel_rfl) ?_ _
   refine Hh ?_
   have HQ9:Hid (JG V1 V3 [.string k9,.slice s1a s1n s1c,.slice s2a s2n s2c] bb (.pointer (some ⟨Q,0,none⟩)) (.bool bb)):=⟨Q,rfl,rfl,p3.out,(Zb hV1 hal).grown g3 (Zb hV1 hal).size (fun q e=>by cases e;exact Nat.le_trans hV1.size hQV),Nat.le_trans hV1.size hQV⟩
   clear p3 g3 pQ hal hS2 hS3
   go_wp2_with fail
   go_meet
   case rel=>exact HQ9.out
 obtain ⟨Q,rfl,rfl,pQ,b2,hQ1⟩:=hcut
 replace oc:=oc.below b2
 replace pC:=pC.below b2
 replace pM:=pM.below b2
 replace pE:=pE.below b2
 replace pK:=pK.below b2
 have bz:=Zb bw b2
 have kpz:=Wc.of (C:=C) (nb:=nb) bz
 have hXC:∀ q,w.heap.size≤q→q≠C:=fun q h e=>by omega
 have nI:=Ye ⟨#[]⟩ ((none,0,0),(none,0,0))
 have hw1:IntKind.i64.wrap ((st.2:Int)+1)=(st.2:Int)+1:=by rw [IntKind.wrap_i64];omega
 clear HV hm1 hm hG bw b2 hQ1 HMC
 cases hq:bb
 ·rw [hq] at HBB
  clear hY9 hN9 pQ hq
  have c20:=pC.cell 0
  have c22:=oc.box.cell 2
  have f22:=oc.box.frozen 2
  simp only [List.getElem?_cons_zero,List.getElem?_cons_succ] at c20 c22
  have oc1:=oc.node (st.2+1)
  have kp1:=kpz.trans (KI wc C nb (.int .i64 ((st.2+1:Nat):Int)))
  have hcast:((st.2+1:Nat):Int)=(st.2:Int)+1:=by omega
  replace pC:=pC.off ⟨C,2,none⟩ (.int .i64 ((st.2+1:Nat):Int)) (hXC _ hX2w)
  replace pM:=pM.off ⟨C,2,none⟩ (.int .i64 ((st.2+1:Nat):Int)) (hXC _ hX3w)
  replace pE:=pE.off ⟨C,2,none⟩ (.int .i64 ((st.2+1:Nat):Int)) (hXC _ hX4w)
  replace pK:=pK.off ⟨C,2,none⟩ (.int .i64 ((st.2+1:Nat):Int)) (hXC _ hX5w)
  rw [hcast] at oc1 kp1 pC pM pE pK
  clear hcast
  go_upto_region 6 with fail
  clear c20 c22 f22 oc kpz hw1
  generalize (wc.setCell ⟨C,2,none⟩ (.int .i64 ((st.2:Int)+1)))=W1 at *
  have c20:=pC.cell 0
  simp only [List.getElem?_cons_zero] at c20
  have kOv:=LT g (st.2+1) oc1.box (by omega)
  go_wp2_with fail
  refine kOv.mono ?_
  rintro e W2 ⟨rfl,hb⟩
  replace oc1:=oc1.below hb
  replace kp1:=kp1.bel hb
  replace pC:=pC.below hb
  replace pM:=pM.below hb
  replace pE:=pE.below hb
  replace pK:=pK.below hb
  clear kOv hb c20
  by_cases hov:2000<g+(st.2+1)
  ·rw [decide_eq_true hov]
   have HR:Hid (Yd rows g (f+1) m st=(e3d,(st.1,st.2+1))):=Po HBB.out.symm hov
   clear HN
   go_wp2_with (refine Zd rfl 109 _ _ rfl X4 [.string ⟨#[]⟩,.slice none 0 0,.slice none 0 0] rfl rfl pE (by kernel_rfl) rfl rfl ?_)
   intro W3 p3 g3
   have pE3:=p3.out
   have oc3:=oc1.grow g3 (fun e=>hXC _ hX4w (by cases e;rfl)) (fun e=>oc1.noblk pE (by cases e;rfl)) (fun j e=>by cases e;exact Nat.le_trans hO.base.size hX4w) (fun x hx q hq e=>(oc1.ents x hx).1.off11 hq pE nI (by cases e;rfl))
   have kp3:=kp1.gr g3 (fun j e=>.inr (.inr (by cases e;exact hX4w)))
   have HG:Hid (MB (.returned (.agg #[.string ⟨#[]⟩,.slice none 0 0,.slice none 0 0])) w0 w W3 C nb g n L st.2 (Yd rows g (f+1) m st)):=by
    rw [HR.out]
    exact ⟨((none,0,0),(none,0,0)),L,n,rfl,YL.zero9 _,⟨⟨fun _=>rfl,fun x hx=>by cases hx⟩,fun j hj=>by rcases hj with hj | hj<;>exact absurd rfl hj.1⟩,fun j hj=>by rcases hj with hj | hj<;>exact absurd rfl hj.1,oc3,hL,by show n+st.2≤n+(st.2+1);omega,fun x hx=>.inl hx,kp3⟩
   have q0:=pE3.cell 0
   have q1:=pE3.cell 1
   have q2:=pE3.cell 2
   simp only [List.getElem?_cons_zero,List.getElem?_cons_succ] at q0 q1 q2
   clear p3 g3 oc3 kp3 oc1 kp1 pE pE3 pC pM pK
   go_wp2
   refine Pg (v:=.agg #[.string ⟨#[]⟩,.slice none 0 0,.slice none 0 0]) rfl ?_ ?_
   ·simp [results,Tryz.results52,go_sem,q0,q1,q2]
   exact HG.out
  rw [decide_eq_false hov]
  have HR:Hid (Yd rows g (f+1) m st=(Vl m (ZO rows g f m (st.1,st.2+1) 3),(Wy (ZO rows g f m (st.1,st.2+1) 3).2.1 (Vl m (ZO rows g f m (st.1,st.2+1) 3)),(ZO rows g f m (st.1,st.2+1) 3).2.2))):=Pn HBB.out.symm hov
  have kN:=HN W2 oc1
  clear HN
  have c20:=pC.cell 0
  have c50:=pK.cell 0
  simp only [List.getElem?_cons_zero] at c20 c50
  go_wp2_with (refine Zc rfl 69 _ rfl X3 rfl pM _ Tryz.underlying69 rfl (by kernel_rfl) ?_)
  refine kN.mono ?_
  rintro e W3 ⟨⟨⟨ba,bn,bc⟩,⟨za,zn,zc⟩⟩,L',n',rfl,hEm,hOff,hEs,oc3,lm,nn,old,kp3⟩
  have htop:=Pm (rows:=rows) (g:=g) (f:=f) (m:=m) (st:=(st.1,st.2+1)) 3 (by omega)
  generalize ZO rows g f m (st.1,st.2+1) 3=R at *
  simp only at htop
  have uE:ZU (Vl m R).1 ((ba,bn,bc),(za,zn,zc))=.agg #[.string key,.slice ba bn bc,.slice za zn zc]:=by rw [HKEY.out];rfl
  simp only [uE]
  clear uE
  have hne:∀ q t cs9,Blk W2 q t cs9→w.heap.size≤q→Blk W3 q t cs9:=fun q t cs9 h h2=>kp3.blk h (hXC q h2) (oc1.noblk h)
  replace pC:=hne _ _ _ pC hX2w
  replace pE:=hne _ _ _ pE hX4w
  replace pK:=hne _ _ _ pK hX5w
  replace kp3:=kp1.trans kp3
  have hs1:=kp1.size
  clear hne c20 c50 kN pM oc1 kp1
  simp only at oc3 lm nn
  go_wp2_with (refine Zd rfl 109 _ _ rfl X4 [.string key,.slice ba bn bc,.slice za zn zc] rfl rfl pE (by kernel_rfl) rfl rfl ?_)
  intro W4 p4 g4
  have pE4:=p4.out
  have oc4:=oc3.grow g4 (fun e=>hXC _ hX4w (by cases e;rfl)) (fun e=>oc3.noblk pE (by cases e;rfl)) (fun j e=>by cases e;exact Nat.le_trans hO.base.size hX4w) (fun x hx q hq e=>(oc3.ents x hx).1.off11 hq pE nI (by cases e;rfl))
  have kp4:=kp3.gr g4 (fun j e=>.inr (.inr (by cases e;exact hX4w)))
  have hEm4:=hEm.same11 g4.size (fun j hj=>g4.block j (hEm.blk11 hj).1 (fun e=>hEm.off11 hj pE nI (by cases e;rfl)))
  have pC4:=pC.kept g4 (fun e=>Y3 pE pC (by decide) (by cases e;rfl))
  have pK4:=pK.kept g4 (fun e=>Y3 pE pK (by decide) (by cases e;rfl))
  obtain ⟨D4,hm4,hG4⟩:=oc4.map
  have c24:=pC4.cell 0
  have c54:=pK4.cell 0
  simp only [List.getElem?_cons_zero] at c24 c54
  have hke:(Vl m R).1=key:=by rw [HKEY.out];rfl
  have k1:=JD (Vl m R) ((ba,bn,bc),(za,zn,zc)) (by rw [hke];exact pE4) c24 (by rw [hke];exact c54) oc4.box hm4 hG4 (by rw [hke];exact hks) (by omega)
  clear p4 pE pC pK c24 c54 hke
  go_wp2
  refine leaves_cons (f:=108) (args:=#[.pointer (some ⟨X4,0,none⟩),.pointer (some ⟨X2,0,none⟩),.pointer (some ⟨X5,0,none⟩)]) (by simp) (by simp [go_sem]) ?_
  refine k1.mono ?_
  rintro e u' W5 ⟨rfl,rfl,hP,hg9⟩
  have oc5:=oc4.put hEm4 hOff hP hg9
  have hEm5:=oc4.nbkeep hg9 hEm4
  have kp5:=kp4.gr hg9 (fun j e=>.inr (.inl (by cases e;rfl)))
  have pE5:=pE4.kept hg9 (fun e=>oc4.noblk pE4 (by cases e;rfl))
  have q0:=pE5.cell 0
  have q1:=pE5.cell 1
  have q2:=pE5.cell 2
  simp only [List.getElem?_cons_zero,List.getElem?_cons_succ] at q0 q1 q2
  show Leaves _ _ _ _ [] .returning _
  refine ⟨.agg #[.string key,.slice ba bn bc,.slice za zn zc],?_,?_⟩
  ·simp [results,Tryz.results52,go_sem,q0,q1,q2]
  rw [HR.out]
  refine ⟨((ba,bn,bc),(za,zn,zc)),VL L' (Vl m R) ((ba,bn,bc),(za,zn,zc)),n'+1,by rw [HKEY.out];rfl,hEm5,hOff,fun j hj=>.inl (Nat.le_trans hs1 (hEs j hj)),oc5,by rw [Tw,lm],by show n'+1+st.2≤n+R.2.2;omega,fun x hx=>?_,kp5⟩
  rcases Tx hx with h9 | h9
  ·rcases old x h9 with h8 | h8
   ·exact .inl h8
   exact .inr (fun j hj=>Nat.le_trans hs1 (h8 j hj))
  rw [h9]
  exact .inr (fun j hj=>Nat.le_trans hs1 (hEs j hj))
 rw [hq] at HBB
 obtain ⟨hmem,hfst,hk9,_⟩:=hY9 hq
 rw [hk9] at pQ
 have HR:Hid (Yd rows g (f+1) m st=(Vc st.1 (ZC m),st)):=Qf HBB.out.symm
 have hEm:=(oc.ents _ hmem).1
 have hOff:=(oc.ents _ hmem).2
 clear hY9 hN9 hq HN hk9 hw1
 go_wp2_with (first | refine Zc rfl 109 _ rfl Q rfl pQ _ Tryz.underlying109 rfl (by kernel_rfl) ?_ | refine Zd rfl 109 _ _ rfl X4 [.string key,.slice s1a s1n s1c,.slice s2a s2n s2c] rfl rfl pE (by kernel_rfl) rfl rfl ?_)
 intro W3 p3 g3
 have pE3:=p3.out
 have oc3:=oc.grow g3 (fun e=>hXC _ hX4w (by cases e;rfl)) (fun e=>oc.noblk pE (by cases e;rfl)) (fun j e=>by cases e;exact Nat.le_trans hO.base.size hX4w) (fun x hx q hq e=>(oc.ents x hx).1.off11 hq pE nI (by cases e;rfl))
 have kp3:=kpz.gr g3 (fun j e=>.inr (.inr (by cases e;exact hX4w)))
 have HG:Hid (MB (.returned (.agg #[.string key,.slice s1a s1n s1c,.slice s2a s2n s2c])) w0 w W3 C nb g n L st.2 (Yd rows g (f+1) m st)):=by
  rw [HR.out,← HKEY.out]
  exact ⟨((s1a,s1n,s1c),(s2a,s2n,s2c)),L,n,by rw [hfst];rfl,(oc3.ents _ hmem).1,hOff,fun j hj=>.inr ⟨_,hmem,hj⟩,oc3,hL,Nat.le_refl _,fun x hx=>.inl hx,kp3⟩
 have q0:=pE3.cell 0
 have q1:=pE3.cell 1
 have q2:=pE3.cell 2
 simp only [List.getElem?_cons_zero,List.getElem?_cons_succ] at q0 q1 q2
 clear p3 g3 oc3 kp3 oc kpz pE pE3 pC pM pK pQ hmem hfst hEm hOff
 go_wp2
 refine Pg (v:=.agg #[.string key,.slice s1a s1n s1c,.slice s2a s2n s2c]) rfl ?_ ?_
 ·simp [results,Tryz.results52,go_sem,q0,q1,q2]
 exact HG.out
theorem SI {rows:List (List I3)} {g:Nat} {w0:World} {C nb:Nat} {cs:Sl × Sl × Sl} (hp:Zq rows=true) (hg:g≤2000) (hV:ZQ w0) (hI:∀ k,k<3→Zj w0 (slK cs k).1 (slK cs k).2.1 (slK cs k).2.2 (Xn rows k)):∀ f,Pv rows g w0 C nb cs f
 | 0=>fun m st n L w hs hf=>by omega
 | f+1=>Lr hp hg hV hI (SI hp hg hV hI f)


theorem GE {w0 w:World} {C nb g n nd:Nat} {L:List EQ} (hO:OnC w0 w C nb g n L nd) (hn:n≤1000000000) (hR:∀ x ∈ L,Yg x.1∧x.1.1.size≤1048576) (hL:L.length≤2000) :
  Calls Tryz.prog 55 #[.pointer (some ⟨C,0,none⟩)] w fun e w'=>TJ e w' w.heap.size (L.map (·.1))∧Below w.heap.size w w':=by
 obtain ⟨i0,hi0,hz0,hz1,hz2⟩:=info_parts Vy
 obtain ⟨D,hm,hG⟩:=hO.map
 have hCw:C<w.heap.size:=hO.box.lt
 have bw:Below w.heap.size w (w.alloc (.cells #[.slice none 0 0] 47)):=by go_grown
 have pR:Blk (w.alloc (.cells #[.slice none 0 0] 47)) w.heap.size 47 [.slice none 0 0]:=Zh _ _ _ rfl
 have hmU:=hm.alloc (.cells #[.slice none 0 0] 47)
 have oc:=hO.below bw
 have hUs:Hid ((w.alloc (.cells #[.slice none 0 0] 47)).heap.size=w.heap.size+1):=by rw [Hid];simp
 go_enter Tryz.func55,Tryz.ntmps55
 go_upto_region 2 with fail
 generalize (w.alloc (.cells #[.slice none 0 0] 47))=U at *
 have c0:=oc.box.cell 0
 simp only [List.getElem?_cons_zero] at c0
 have kS:=Hz nb n D U hmU hn
 go_wp2_with fail
 refine (Fm _ _).mono ?_
 rintro e w2 ⟨rfl,rfl⟩
 go_wp2_with fail
 refine kS.mono ?_
 rintro e w3 ⟨v,ss,rfl,hp,ho,hnil,hb3⟩
 have hb2:Below U.heap.size U (U.alloc (.cells #[.map (some nb)] 104)):=by go_grown
 have hsz2:U.heap.size≤(U.alloc (.cells #[.map (some nb)] 104)).heap.size:=hb2.size
 have e1:=MT hmU hG hp
 have e2:ss.length=L.length:=by have h9:=congrArg List.length e1;rw [List.length_mergeSort] at h9;rw [h9];unfold U9;rw [List.length_map]
 rw [e1,e2,KH] at ho
 have hb:=Zb hb2 hb3
 replace ho:=ZT ho (show w.heap.size+1≤_ from Nat.le_trans (Nat.le_of_eq hUs.out.symm) hsz2)
 replace bw:=Zb bw hb
 replace pR:=pR.below hb
 replace oc:=oc.below hb
 have hs3:w.heap.size+1≤w3.heap.size:=by have:=hb.size;have:=hUs.out;omega
 clear kS hb hb2 hb3 hsz2 hnil hp e1 e2 c0 hmU hm hUs
 obtain ⟨ka,kc,rfl⟩:=ZH ho
 obtain ⟨m,hml⟩:∃ m,m=L.length:=⟨_,rfl⟩
 rw [← hml] at ho hL ⊢
 have HL:Hid (m=L.length):=hml
 clear hml
 go_wp2_with fail
 go_loopw [3,13] (fun so si wr=>∃ (k:Nat) (va:Option Addr) (vn vc:Nat),k≤m∧si=.int .i64 k∧so=.slice va vn vc∧Yo wr (w.heap.size+1) (.slice va vn vc) ((L.map (·.1)).take k)∧Below w.heap.size w wr∧wr.ownsRow (w.heap.size+1) 9 1 (.slice ka m kc) m (L.map fun x=>Value.string x.1.1)∧Blk wr w.heap.size 47 [.slice none 0 0]∧w.heap.size+1≤wr.heap.size) (fun _ si _=>m - (intOf si).toNat)
 case atStart=>exact ⟨0,none,0,0,by omega,rfl,rfl,by rw [List.take_zero];exact Yo.nil9 _ _,bw,ho,pR,hs3⟩
 case round =>
  clear bw ho pR oc hs3
  obtain ⟨k,xa,xn,xc,hk,rfl,rfl,hM,bw,ho,pW,hsW⟩:=hrel
  by_cases hlt:k<m
  ·obtain ⟨kg,kc',e9⟩:=SB ho (by omega)
   cases e9
   have hkl:k<L.length:=by rw [← HL.out];exact hlt
   have x0:wr.cell? ⟨kg,k,none⟩=some (.string (L[k]).1.1):=by
    have h9:=ho.cellAt k (by omega)
    rw [h9]
    simp [List.getElem?_map,List.getElem?_eq_getElem hkl]
   have hx:=List.getElem_mem hkl
   have oc:=hO.below bw
   obtain ⟨hEr,hks⟩:=hR _ hx
   have y1:=hEr.bugs
   have y2:=hEr.foot
   obtain ⟨D2,hm2,hG2⟩:=oc.map
   have hkey:keyOf Tryz.prog 9 (.string (L[k]).1.1)=some (Ve (L[k]).1.1):=WideMaps.keyOf_string_mk Tryz.underlying9 (by unfold maxLen;omega)
   obtain ⟨v9,ps9,hrun,hv9⟩:=hm2.lookup (zd:=.held (.agg #[.string ⟨#[]⟩,.slice none 0 0,.slice none 0 0])) (zp:=[]) WE Tryz.underlying104 (UG wr) rfl hkey
   have hv8:v9=ZU (L[k]).1.1 (L[k]).2:=by
    rw [hG2.at9 _ hx] at hv9
    unfold Vq at hv9
    injection hv9 with hv9
    injection hv9 with hv9 _
    injection hv9
   subst hv8
   have hmE:=(oc.ents _ hx).1
   have kE:=fun W (hb:Below wr.heap.size wr W)=>(QO (L[k]).1 (L[k]).2 W (hmE.below hb) (by omega) (by omega) hks).mono (fun x w' h9=>(⟨h9.1.lower hb.size,Zm hb h9.2⟩:WH x w' wr.heap.size (L[k]).1∧Below wr.heap.size wr w'))
   have hsn:=R8 (es:=L.map (·.1)) (k:=k) (by simpa using hkl)
   have e7:(L.map (·.1)).getD k e3d=(L[k]).1:=by simp [List.getD,List.getElem?_eq_getElem hkl]
   rw [e7] at hsn
   have c0:=oc.box.cell 0
   simp only [List.getElem?_cons_zero] at c0
   clear hx hmE hEr hks y1 y2 hv9 hkey hm2 hG2 oc e7
   generalize L[k]=x at *
   obtain ⟨x,s⟩:=x
   simp only at x0 hrun kE hsn
   generalize hps:(L.map (·.1)).take k=ps at *
   have hpl:ps.length≤2000:=by rw [← hps,List.length_take,List.length_map,← HL.out];omega
   clear hps
   obtain ⟨xk,xb,xz⟩:=x
   obtain ⟨⟨a1,n1,c1⟩,⟨a2,n2,c2⟩⟩:=s
   unfold ZU at kE hrun
   simp only at x0 kE hrun
   have hlt':(k:Int)<(m:Int):=by omega
   have hk0:(0:Int)≤(k:Int):=by omega
   go_wp2_with fail
   refine (kE _ (Below.refl _ _)).mono ?_
   rintro e w1 ⟨⟨⟨⟨d1,p1,q1⟩,⟨d2,p2,q2⟩⟩,rfl,hOE⟩,hbn⟩
   obtain ⟨cs,hoM,hE⟩:=hM
   have hb2:Below w1.heap.size w1 (w1.alloc (.cells #[.string xk,.slice d1 p1 q1,.slice d2 p2 q2] 109)):=by go_grown
   have ho2:=Zp (Zp hoM hbn) hb2
   have hs2:w.heap.size+1≤(w1.alloc (.cells #[.string xk,.slice d1 p1 q1,.slice d2 p2 q2] 109)).heap.size:=by have:=hb2.size;have:=hbn.size;omega
   clear x0 kE hrun c0
   unfold ZU
   simp only
   go_wp2_with (at_builtin;refine Xg rfl _ _ 45 rfl (w.heap.size+1) 109 i0 (.agg #[.string ⟨#[]⟩,.slice none 0 0,.slice none 0 0]) 3 64 Tryz.underlying45 hi0 hz0 hz1 hz2 rfl (by decide) _ _ _ rfl ho2 _ 1 1 rfl (fun h9=>by cases h9) (Yl xk ((d1,p1,q1),(d2,p2,q2))) (by simp [Yl]) (Pc w1 [.string xk,.slice d1 p1 q1,.slice d2 p2 q2] 109) (UN _ _) (by unfold maxLen;omega) (by omega) hs2 ?_)
   intro v3 w3 hown hgrow _
   obtain ⟨va9,vc9,rfl⟩:=ZH hown
   have hM3:=Yo.snoc9 (s:=((d1,p1,q1),(d2,p2,q2))) hoM hE hbn hOE hb2 hgrow hown (by omega)
   have hgB:∀ g,(Value.ownBlock (.slice xa xn xc))=some g→w.heap.size+1≤g:=fun g hg=>(ho2.lt g hg).1
   have b3:Below w.heap.size w w3:=(Zm (Zm bw hbn) hb2).grown hgrow (by omega) (fun g hg=>by have:=hgB g hg;omega)
   have g3:=(Blk.kept ((pW.below hbn).below hb2) hgrow (fun e9=>by have:=hgB _ e9;omega))
   have o3:w3.ownsRow (w.heap.size+1) 9 1 (.slice (some ⟨kg,0,none⟩) m kc) m (L.map fun x=>Value.string x.1.1):=World.ownsRow.kept (Zp (Zp ho hbn) hb2) hgrow (Ap3.types (Zp (Zp ho hbn) hb2) ho2 (by decide)).or
   have s3:w.heap.size+1≤w3.heap.size:=Nat.le_trans hs2 hgrow.size
   clear hoM hE hbn hOE hb2 ho2 hs2 hown hgrow hgB ho pW bw
   go_wp2
   go_roundw
   case rel=>exact ⟨k+1,_,_,_,by omega,by go_num,rfl,by rw [← hsn];exact hM3,b3,o3,g3,s3⟩
   case measure=>simp [intOf];omega
  obtain rfl:k=m:=by omega
  have e9:(L.map (·.1)).take k=L.map (·.1):=by rw [List.take_of_length_le (by rw [List.length_map];exact Nat.le_of_eq HL.out.symm)]
  rw [e9] at hM
  have r0:=pW.cell 0
  have fr0:=pW.frozen 0
  have pZ:=pW.set 0 (.slice xa xn xc)
  simp only [List.set_cons_zero] at pZ
  have z0:=pZ.cell 0
  simp only [List.getElem?_cons_zero] at z0 r0
  have hM9:=(hM.low (p:=⟨w.heap.size,0,none⟩) (show w.heap.size<w.heap.size+1 by omega) (.slice xa xn xc)).lower (show w.heap.size≤w.heap.size+1 by omega)
  have bz:=bw.setCell (p:=⟨w.heap.size,0,none⟩) (Nat.le_refl _) (.slice xa xn xc)
  clear hM pZ pW bw e9 ho
  go_wp2
  refine bodyPost_ret (by simp [results,Tryz.results55,go_sem,z0];try rfl) rfl ?_
  exact ⟨TJ.mk9 hM9,bz⟩


theorem KW (m:V4) {k:Nat} (hk:k<3):(Zx m).take (k+1)=(Zx m).take k++[8*(k:Int)+m.1.getD k 0]:=by
 match k,hk with
 | 0,_=>simp [Zx]
 | 1,_=>simp [Zx]
 | 2,_=>simp [Zx]
theorem NK (s:S4) (m:V4) (w:World) (h:Yv w s m) (hs:Ze m=true) :
  Calls Tryz.prog 149 #[s.val] w fun e w'=>TK e w' w.heap.size (Zx m)∧Below w.heap.size w w':=by
 obtain ⟨i0,hi,hz0,hz1,hz2⟩:=info_parts Xp
 obtain ⟨h1,_⟩:=h
 have hl3:=(ZF hs).1
 have hpc:=fun k hk=>P0 hs (k:=k) hk
 obtain ⟨⟨a0,n0,c0⟩,⟨a1,n1,c1⟩,⟨a2,n2,c2⟩,⟨a3,n3,c3⟩⟩:=s
 have uA:S4.val ((a0,n0,c0),(a1,n1,c1),(a2,n2,c2),(a3,n3,c3))=.agg #[.slice a0 n0 c0,.slice a1 n1 c1,.slice a2 n2 c2,.slice a3 n3 c3]:=rfl
 simp only [uA] at *
 clear uA
 replace h1:ZW .i64 w a0 n0 c0 m.1:=h1.1
 have bw:Below w.heap.size w ((w.alloc (.cells #[.slice a0 n0 c0,.slice a1 n1 c1,.slice a2 n2 c2,.slice a3 n3 c3] 74)).alloc (.cells #[] 3)):=by go_grown
 have pS:Blk ((w.alloc (.cells #[.slice a0 n0 c0,.slice a1 n1 c1,.slice a2 n2 c2,.slice a3 n3 c3] 74)).alloc (.cells #[] 3)) w.heap.size 74 [.slice a0 n0 c0,.slice a1 n1 c1,.slice a2 n2 c2,.slice a3 n3 c3]:=Zf _ (Zh _ _ _ rfl)
 have q0:=Xu (w.alloc (.cells #[.slice a0 n0 c0,.slice a1 n1 c1,.slice a2 n2 c2,.slice a3 n3 c3] 74)) 3 1 (w.heap.size+1) (by simp)
 go_enter Tryz.func149,Tryz.ntmps149
 go_wp2_with fail
 generalize (w.alloc (.cells #[.slice a0 n0 c0,.slice a1 n1 c1,.slice a2 n2 c2,.slice a3 n3 c3] 74)).alloc (.cells #[] 3)=W0 at *
 simp only [World.size_alloc] at q0
 go_loopw [3,4] (fun so si wr=>∃ (k:Nat) (v:Value),v=so∧k≤3∧si=.int .i64 k∧wr.ownsRow (w.heap.size+1) 3 1 v k (((Zx m).take k).map (Value.int .i64))∧Blk wr w.heap.size 74 [.slice a0 n0 c0,.slice a1 n1 c1,.slice a2 n2 c2,.slice a3 n3 c3]∧Below w.heap.size w wr) (fun _ si _=>3 - (Go.RowKit.intOf si).toNat)
 case atStart=>exact ⟨0,_,rfl,by omega,rfl,q0,pS,bw⟩
 case round =>
  clear q0 pS bw
  obtain ⟨k,so,rfl,hk,rfl,q,pS,bw⟩:=hrel
  by_cases hlt:k<3
  ·have hk3:(k:Int)<3:=by omega
   have hk0:(0:Int)≤(k:Int):=by omega
   have hln:=h1.1
   have hkn:(k:Int)<(n0:Int):=by omega
   have HT:Hid ((Zx m).take (k+1)=(Zx m).take k++[8*(k:Int)+m.1.getD k 0]):=KW m hlt
   have kI:=MU (k:Int) (m.1.getD k 0) wr (YF.2 (by omega)) (hpc k hlt)
   obtain ⟨_,_,_,hcase⟩:=h1.below bw
   rcases hcase with e0 | ⟨b,off,rfl,hb9,hc⟩
   ·omega
   have d0:=hc k (by omega)
   have gS0:wr.cell? ⟨w.heap.size,0,none⟩=some (.slice (some ⟨b,off,none⟩) n0 c0):=by simpa using pS.cell 0
   generalize m.1.getD k 0=p at d0 HT kI
   have hsz:=bw.size
   have hsl:=pS.lt
   clear hc hb9 hln
   go_wp2_with fail
   refine kI.mono ?_
   rintro e w3 ⟨rfl,rfl⟩
   clear kI
   generalize 8*(k:Int)+p=zz at *
   go_wp2_with (at_builtin;refine wpList_append_own _ rfl _ _ 72 rfl (w.heap.size+1) 3 i0 (.int .i64 0) 1 8 Tryz.underlying72 hi hz0 hz1 hz2 rfl (by decide) _ _ _ rfl (q.alloc _) ⟨wr.heap.size,0,none⟩ 1 1 [.int .i64 zz] rfl rfl (cell_one_new _ _ _) (by simp [Value.oneCell']) ?c3 ?c4 ?c5 ?_)
   case c3=>unfold maxLen;omega
   case c4=>omega
   case c5=>simp;omega
   intro v' wn hown' hgrow _
   have R:wn.ownsRow (w.heap.size+1) 3 1 v' (k+1) (((Zx m).take (k+1)).map (Value.int .i64)):=by
    rw [HT.out,List.map_append]
    simpa [List.map_take] using hown'
   have bn:Below w.heap.size w wn:=(bw.alloc hsz _).grown hgrow (by simp;omega) (fun k hk=>by have:=(q.lt k hk).1;omega)
   have pn:Blk wn w.heap.size 74 [.slice (some ⟨b,off,none⟩) n0 c0,.slice a1 n1 c1,.slice a2 n2 c2,.slice a3 n3 c3]:=(pS.below (by go_grown:Below wr.heap.size wr (wr.alloc (.cells #[.int .i64 zz] 3)))).kept hgrow (fun e=>by have:=(q.lt _ e).1;omega)
   clear hown' hgrow q bw pS HT gS0 d0
   go_wp2
   go_roundw
   case rel=>exact ⟨k+1,_,rfl,by omega,by go_num,R,pn,bn⟩
   case measure=>simp [Go.RowKit.intOf];omega
  obtain rfl:k=3:=by omega
  obtain ⟨ga,gc,rfl⟩:=SB q (by omega)
  go_wp2
  go_ret
  exact ⟨⟨_,rfl,ZT q (by omega)⟩,bw⟩
end Go.Proofs.YtmhlokahmblboaaGreatDoor
