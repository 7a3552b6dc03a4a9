/-
  Joined: ComI.
-/
import Derived.Test.YtgmhhegckcionaaGreatDoorF45

namespace Go.Proofs.YtgmhhegckcionaaGreatDoor
set_option maxRecDepth 100000
set_option maxHeartbeats 16000000
open Go.RowKit
set_option linter.unusedVariables false
set_option linter.unusedSimpArgs false

theorem MT:(Tryz.prog.info? 36).map (fun i=>(i.zero,i.size,i.bytes))=some (some (.slice none 0 0),1,24):=by kernel_rfl
def NQ (rows:List (List I3)) (g:Nat) (w0:World) (C nb:Nat) (cs:Sl × Sl × Sl) (f:Nat):Prop:=∀ (m:V4) (st:Zy) (n:Nat) (L:List EQ) (w:World),Zc m=true→ZR rows m<f→(∀ e ∈ st.1,YL e)→st.2+UJ f≤600000000→n≤g+st.2→L.map (·.1)=st.1→OnC w0 w C nb g n L st.2 →
 Calls Tryz.prog 48 #[.pointer (some ⟨C,0,none⟩),.agg (Zi cs.1.val cs.2.1.val cs.2.2.val m).toArray] w fun x w'=>LW x w0 w w' C nb g n L st.2 (Z7 rows g f m st)
def Bf (w:World) (C:Nat) (vf vt:Value) (v:Value) (xs:List Int):Prop:=∃ la ln lc,v=.slice la ln lc∧Yn .i64 w la ln lc xs∧∀ q,SlB (la,ln,lc) q→q≠C∧vf.ownBlock≠some q∧vt.ownBlock≠some q
def NJ (w:World) (C:Nat) (vf vt:Value) (vs:List Value) (xss:List (List Int)):Prop:=vs.length=xss.length∧∀ t,t<xss.length→Bf w C vf vt (vs.getD t undef) (xss.getD t [])
theorem NJ.allL {w:World} {C:Nat} {vf vt:Value} {vs:List Value} {xss:List (List Int)} (h:NJ w C vf vt vs xss):JI w vs xss:=⟨h.1,fun t ht=>by
 obtain ⟨la,ln,lc,e,hi,_⟩:=h.2 t ht
 exact ⟨la,ln,lc,e,hi⟩⟩
theorem NJ.turn {w w':World} {C:Nat} {vf vt vf' vt':Value} {vs:List Value} {xss:List (List Int)} (h:NJ w C vf vt vs xss) (hs:w.heap.size≤w'.heap.size) (hb:∀ q,q<w.heap.size→q≠C→(∀ es clock,w.heap[q]?≠some (.map es clock))→vf.ownBlock≠some q→vt.ownBlock≠some q→w'.heap[q]?=w.heap[q]?∧vf'.ownBlock≠some q∧vt'.ownBlock≠some q):NJ w' C vf' vt' vs xss:=
 ⟨h.1,fun t ht=>by
  obtain ⟨la,ln,lc,e,hi,ho⟩:=h.2 t ht
  refine ⟨la,ln,lc,e,hi.same11 hs (fun q hq=>?_),fun q hq=>?_⟩
  ·obtain ⟨h1,h2⟩:=hi.blk11 hq
   exact (hb q h1 (ho q hq).1 h2 (ho q hq).2.1 (ho q hq).2.2).1
  obtain ⟨h1,h2⟩:=hi.blk11 hq
  exact ⟨(ho q hq).1,(hb q h1 (ho q hq).1 h2 (ho q hq).2.1 (ho q hq).2.2).2⟩⟩
theorem NJ.snoc {w:World} {C:Nat} {vf vt:Value} {vs:List Value} {xss:List (List Int)} {v:Value} {xs:List Int} (h:NJ w C vf vt vs xss) (hv:Bf w C vf vt v xs):NJ w C vf vt (vs++[v]) (xss++[xs]):=by
 refine ⟨by simp [h.1],fun t ht=>?_⟩
 by_cases h9:t<xss.length
 ·have e1:(vs++[v]).getD t undef=vs.getD t undef:=by simp [List.getD,List.getElem?_append_left (show t<vs.length by have:=h.1;omega)]
  have e2:(xss++[xs]).getD t []=xss.getD t []:=by simp [List.getD,List.getElem?_append_left h9]
  rw [e1,e2]
  exact h.2 t h9
 have e9:t=xss.length:=by simp at ht;omega
 subst e9
 have e1:(vs++[v]).getD xss.length undef=v:=by rw [← h.1];simp [List.getD]
 have e2:(xss++[xs]).getD xss.length []=xs:=by simp [List.getD]
 rw [e1,e2]
 exact hv
structure G2 (w0 w wr:World) (C nb g n:Nat) (L:List EQ) (nd:Nat) (cs:Sl × Sl × Sl) (rows:List (List I3)) (f:Nat) (m:V4) (st:Zy) (Y bL:Nat) (sl:Sl) (j:Nat) (vf vt:Value) (L':List EQ) (n':Nat) (vs:List Value) (xss:List (List Int)):Prop where
 oc:OnC w0 wr C nb g n' L' (Z5 rows g f m st j).2.2
 lm:L'.map (·.1)=(Z5 rows g f m st j).2.1
 nn:n'+nd≤n+(Z5 rows g f m st j).2.2
 old:∀ x ∈ L',x ∈ L∨∀ q,EnB x.2 q→w.heap.size≤q
 mc:Blk wr Y 98 (Zi cs.1.val cs.2.1.val cs.2.2.val m)
 ls:Z0 wr bL sl (Zm rows m 3)
 fo:wr.ownsRow w.heap.size 103 3 vf (Z5 rows g f m st j).1.1.length (Zn (Z5 rows g f m st j).1.1)
 fe:wr.ownsRow w.heap.size 36 1 vt (j+1) vs
 fl:xss.length=j+1∧xss.flatten=(Z5 rows g f m st j).1.2
 fs:NJ wr C vf vt vs xss
 sep:∀ x ∈ L',∀ q,EnB x.2 q→vf.ownBlock≠some q∧vt.ownBlock≠some q
 kp:WM w wr C nb
def NM (x:Ending) (w0 w w':World) (C nb g n:Nat) (L:List EQ) (nd:Nat) (R:E3 × Zy):Prop:=
 ∃ (s:Sl2) (L':List EQ) (n':Nat),x=.returned (ZW R.1.1 s)∧YK w' s R.1∧KZ C s∧(∀ j,EnB s j→w.heap.size≤j)∧OnC w0 w' C nb g n' L' R.2.2∧L'.map (·.1)=R.2.1∧n'+nd≤n+R.2.2∧(∀ x ∈ L',x ∈ L∨∀ j,EnB x.2 j→w.heap.size≤j)∧WM w w' C nb
def TX (V W:World) (B:Nat) (v:Value) (xs:List I3) (s7:Value):Prop:=∃ a c,s7=.slice a xs.length c∧W.ownsRow B 103 3 (.slice a xs.length c) xs.length (Zn xs)∧V.grownBy W v.ownBlock∧((Value.slice a xs.length c).ownBlock=v.ownBlock∨∃ q,(Value.slice a xs.length c).ownBlock=some q∧V.heap.size≤q)
theorem TX.mk9 {V W:World} {B:Nat} {v:Value} {xs:List I3} {s7:Value} (h:W.ownsRow B 103 3 s7 xs.length (Zn xs)) (g:V.grownBy W v.ownBlock) (k:s7.ownBlock=v.ownBlock∨∃ q,s7.ownBlock=some q∧V.heap.size≤q):TX V W B v xs s7:=by
 obtain ⟨a,c,rfl⟩:=ZY h
 exact ⟨a,c,rfl,h,g,k⟩
theorem Gq (W:World) (e B:Nat) (v:Value) (hB:B≤W.heap.size):(W.alloc (.cells #[v] e)).ownsRow B e 1 (.slice (some ⟨W.heap.size,0,none⟩) 1 1) 1 [v]:=by
 exact World.ownsRow_lit W #[v] 1 hB (by unfold maxLen;omega) (by simp)
theorem Bl (a b c:Int):∀ u ∈ [Value.int .i64 a,.int .i64 b,.int .i64 c],u.oneCell'=true:=by
 intro u hu
 simp only [List.mem_cons,List.not_mem_nil,or_false] at hu
 rcases hu with rfl | rfl | rfl<;>rfl
theorem MI (xs:List I3) (x:I3):Zn (xs++[x])=Zn xs++[.int .i64 x.1,.int .i64 x.2.1,.int .i64 x.2.2]:=by simp [Zn,I3.cells]
theorem N2 (w:World) (r:Option Nat):w.grownBy w r:=⟨rfl,rfl,rfl,Nat.le_refl _,fun _ _ _=>rfl⟩
theorem Sw {a b c:World} {r:Option Nat} (h:Below a.heap.size a b) (k:b.grownBy c r):a.grownBy c r:=⟨k.os.trans h.os,k.tape.trans h.tape,k.output.trans h.output,Nat.le_trans h.size k.size,fun j hj hr=>(k.block j (Nat.lt_of_lt_of_le hj h.size) hr).trans (h.block j hj)⟩
theorem Ka {rows:List (List I3)} {g:Nat} {w0:World} {C nb:Nat} {cs:Sl × Sl × Sl} (hp:Zf rows=true) (hg:g≤2000) (hV:ZN w0) (hI:∀ k,k<3→Zr w0 (slK cs k).1 (slK cs k).2.1 (slK cs k).2.2 (Yg rows k)) {f:Nat} (ih:NQ rows g w0 C nb cs f)
  (m:V4) (st:Zy) (n:Nat) (L:List EQ) (w:World) (hs:Zc m=true) (hf:ZR rows m<f+1) (hE:∀ e ∈ st.1,YL e) (ht:st.2+3*UJ f≤600000000) (hn:n+1≤g+st.2) (hL:L.map (·.1)=st.1) (hO:OnC w0 w C nb g n L st.2) :
  Calls Tryz.prog 87 #[.pointer (some ⟨C,0,none⟩),.string (Zt m),.agg (Zi cs.1.val cs.2.1.val cs.2.2.val m).toArray] w fun x w'=>NM x w0 w w' C nb g n L st.2 (Ub m (Z5 rows g f m st 3),(Z5 rows g f m st 3).2):=by
 obtain ⟨i0,hi9,hz0,hz1,hz2⟩:=info_parts Xp
 obtain ⟨j0,hjI,hy0,hy1,hy2⟩:=info_parts MT
 have kO:=fun i=>GT (g:=g) (f:=f) hp hs hE i
 have HNX:=fun (k:Int) (hk:k ∈ Zm rows m 3)=>XK hp hs (k,(goM rows m k).1) (by unfold nxM;exact List.mem_map.2 ⟨k,hk,rfl⟩)
 obtain ⟨key,hkey⟩:∃ key,key=Zt m:=⟨_,rfl⟩
 have hks:key.size≤maxLen:=by rw [hkey,X0 hs];unfold maxLen;omega
 rw [← hkey]
 have HKEY:Hid (key=Zt m):=hkey
 clear hkey
 obtain ⟨x0,x1,x2,x3,x4,x5,x6,x7,x8,x9,x10,x11,x12,x13,x14,x15,x16,x17,hMC⟩:∃ x0 x1 x2 x3 x4 x5 x6 x7 x8 x9 x10 x11 x12 x13 x14 x15 x16 x17:Value,Zi cs.1.val cs.2.1.val cs.2.2.val m=[x0,x1,x2,x3,x4,x5,x6,x7,x8,x9,x10,x11,x12,x13,x14,x15,x16,x17]:=⟨_,_,_,_,_,_,_,_,_,_,_,_,_,_,_,_,_,_,rfl⟩
 have bw:Below w.heap.size w ((w.alloc (.cells #[x0,x1,x2,x3,x4,x5,x6,x7,x8,x9,x10,x11,x12,x13,x14,x15,x16,x17] 98)).alloc (.cells #[.string ⟨#[]⟩,.slice none 0 0,.slice none 0 0] 45)):=by go_grown
 have pY:Blk ((w.alloc (.cells #[x0,x1,x2,x3,x4,x5,x6,x7,x8,x9,x10,x11,x12,x13,x14,x15,x16,x17] 98)).alloc (.cells #[.string ⟨#[]⟩,.slice none 0 0,.slice none 0 0] 45)) w.heap.size 98 [x0,x1,x2,x3,x4,x5,x6,x7,x8,x9,x10,x11,x12,x13,x14,x15,x16,x17]:=Zl _ (Zj _ _ _ rfl)
 have pR:Blk ((w.alloc (.cells #[x0,x1,x2,x3,x4,x5,x6,x7,x8,x9,x10,x11,x12,x13,x14,x15,x16,x17] 98)).alloc (.cells #[.string ⟨#[]⟩,.slice none 0 0,.slice none 0 0] 45)) (w.heap.size+1) 45 [.string ⟨#[]⟩,.slice none 0 0,.slice none 0 0]:=Zj _ _ _ (by simp)
 go_enter Tryz.func87,Tryz.ntmps87
 go_wp2_with fail
 have HS0:=hO
 generalize ((w.alloc (.cells #[x0,x1,x2,x3,x4,x5,x6,x7,x8,x9,x10,x11,x12,x13,x14,x15,x16,x17] 98)).alloc (.cells #[.string ⟨#[]⟩,.slice none 0 0,.slice none 0 0] 45))=U at *
 rw [← hMC] at pY
 clear hMC
 have b0:=Zb hO.base bw
 obtain ⟨Z6,hZ6⟩:∃ Z6,Z6=w.heap.size+1:=⟨_,rfl⟩
 rw [← hZ6] at pR ⊢
 obtain ⟨Y,hY⟩:∃ Y,Y=w.heap.size:=⟨_,rfl⟩
 rw [← hY] at pY ⊢
 have hYw:w.heap.size≤Y:=by omega
 have hZw:w.heap.size≤Z6:=by omega
 clear hY hZ6
 have kU:=U8 (stuck_is Y cs rows m U ⟨pY,fun k hk=>(hI k hk).below b0⟩ hp hs)
 rw [show (if YS rows m then [((14:Int),(0:Int),(0:Int))] else [])=ZC rows m from rfl] at kU
 refine kU.mono ?_
 rintro e w1 ⟨⟨vf0,rfl,hf0⟩,hb⟩
 replace hf0:=Yz hf0 bw.size
 replace bw:=Zb bw hb
 replace pY:=pY.below hb
 replace pR:=pR.below hb
 clear kU hb b0
 have kL:=FH Y 0 cs m w1 (Xr pY) hs
 go_wp2_with fail
 refine kL.mono ?_
 rintro e w2 ⟨⟨vl,rfl,ql⟩,hb⟩
 replace ql:=Yz ql bw.size
 replace bw:=Zb bw hb
 replace pY:=pY.below hb
 replace pR:=pR.below hb
 replace hf0:=Z1 hf0 hb
 obtain ⟨la,lc,rfl⟩:=ZY ql
 obtain ⟨_,_,e9,iL,_,oL⟩:=SB ql
 cases e9
 have hb3:Below w2.heap.size w2 (w2.alloc (.cells #[.slice la (Zx m).length lc] 36)):=by go_grown
 have hT0:(w2.alloc (.cells #[.slice la (Zx m).length lc] 36)).ownsRow w.heap.size 36 1 (.slice (some ⟨w2.heap.size,0,none⟩) 1 1) 1 [.slice la (Zx m).length lc]:=Gq _ _ _ _ bw.size
 have iL3:=iL.below hb3
 have hlt2:=fun j (hj:SlB (la,(Zx m).length,lc) j)=>Yc ql (oL j hj)
 have hvf2:=fun j (hj:vf0.ownBlock=some j)=>Yc hf0 hj
 have hap0:=Ap3.types ql hf0 (by decide)
 replace bw:=Zb bw hb3
 replace pY:=pY.below hb3
 replace pR:=pR.below hb3
 replace hf0:=Z1 hf0 hb3
 clear kL hb ql iL
 generalize hlk:(Zx m).length=ll at *
 go_upto_region 3 with fail
 clear hb3
 generalize (w2.alloc (.cells #[.slice la ll lc] 36))=w3 at *
 generalize w2.heap.size=T0 at *
 have kE:=Vx Y cs rows m w3 ⟨pY,fun k hk=>(hI k hk).below (Zb hO.base bw)⟩ hp hs
 go_wp2_with fail
 refine kE.mono ?_
 rintro e w4 ⟨⟨⟨ka,kn,kc⟩,rfl,hLs⟩,hb⟩
 have hLn:(Zm rows m 3).length=kn:=by have:=hLs.1;simpa using this
 have hn3:kn≤3:=by rw [← hLn];exact YM rows m 3
 have bw4:=Zb bw hb
 have hCw:C<w.heap.size:=hO.box.lt
 have hst:G2 w0 w w4 C nb g n L st.2 cs rows f m st Y w3.heap.size (ka,kn,kc) 0 vf0 (.slice (some ⟨T0,0,none⟩) 1 1) L n [.slice la ll lc] [Zx m]:=by
  refine ⟨hO.below bw4,hL,Nat.le_refl _,fun x hx=>.inl hx,pY.below hb,hLs,Z1 hf0 hb,Z1 hT0 hb,⟨rfl,by rw [KU];simp⟩,⟨rfl,fun t ht9=>?_⟩,fun x hx q hq=>?_,WM.of bw4⟩
  ·obtain rfl:t=0:=by simpa using ht9
   refine ⟨la,ll,lc,rfl,iL3.below hb,fun q hq=>⟨?_,fun e9=>hap0 q (oL q hq) e9,fun e9=>?_⟩⟩
   ·have:=(hlt2 q hq).1
    omega
   have h8:=(hlt2 q hq).2
   have h9:T0=q:=by injection e9
   omega
  have h1:=((hO.ents x hx).1.blk11 hq).1
  refine ⟨fun e9=>?_,fun e9=>?_⟩
  ·have:=(hvf2 q e9).1
   omega
  have h9:T0=q:=by injection e9
  have h8:=(hT0.lt T0 rfl).1
  omega
 have pR4:=pR.below hb
 have bR:Below w.heap.size w w4:=bw4
 generalize w3.heap.size=bL at *
 clear hb kE hLs bw bw4 pY pR hf0 hT0 iL3 hlt2 hvf2 hap0 oL
 go_wp2_with fail
 go_loopw [7,8,19] (fun s7 s8 s19 wr=>∃ (j n':Nat) (L':List EQ) (vs:List Value) (xss:List (List Int)),s19=.int .i64 j∧j≤kn∧G2 w0 w wr C nb g n L st.2 cs rows f m st Y bL (ka,kn,kc) j s7 s8 L' n' vs xss∧Blk wr Z6 45 [.string ⟨#[]⟩,.slice none 0 0,.slice none 0 0]) (fun _ _ s19 _=>kn - (intOf s19).toNat)
 case atStart=>exact ⟨0,n,L,_,_,rfl,Nat.zero_le _,hst,pR4⟩
 case round =>
  clear hst pR4 bR
  obtain ⟨j,n',L',vs,xss,rfl,hjn,hM,pR⟩:=hrel
  obtain ⟨oc,lm,nn,old,mc,ls,fo,fe,⟨fl1,fl2⟩,fs,sep,kp⟩:=hM
  obtain ⟨ta,tc,rfl⟩:=ZY fe
  by_cases hlt2:j<kn
  ·have hkj:(Zm rows m 3)[j]?=some ((Zm rows m 3).getD j 0):=by rw [List.getD,List.getElem?_eq_getElem (by omega)];rfl
   have hz:=Xe (List.mem_of_getElem? hkj)
   have hnx:=HNX _ (List.mem_of_getElem? hkj)
   obtain ⟨h0k,h2k,hd,_⟩:=XB hz
   obtain ⟨k,hk⟩:∃ k:Nat,(Zm rows m 3).getD j 0=(k:Int):=⟨_,(Int.toNat_of_nonneg h0k).symm⟩
   obtain ⟨lb,lo,rfl,hc,hlb⟩:=Uv ls.ints (show j<kn from hlt2)
   rw [hk] at hkj hz hd h0k h2k hc hnx
   rw [Int.toNat_natCast] at hd
   have hk3:k<3:=by omega
   clear hk hlb
   have hsuc:=KT (g:=g) (f:=f) (st:=st) hkj
   have hown:Xg rows m (k:Int)=if (goM rows m (k:Int)).2=0 then [] else [((goM rows m (k:Int)).2,(k:Int),m.1.getD k 0)]:=by unfold Xg;rw [Int.toNat_natCast]
   have HOWN:∀ x ∈ Xg rows m (k:Int),okB x=true:=fun x hx=>TC (Mh hp hs hz hx)
   have howl:=QU rows m (k:Int)
   have kT:=fun (W:World) (q:Nat) (h:ZO W q cs rows m)=>JF h hp hs hk3 hd
   rw [← Sv] at kT
   have kOj:=kO j
   have htj:=Nx (rows:=rows) (g:=g) (f:=f) (m:=m) (st:=st) j (by omega)
   have hcj:=GS (rows:=rows) (g:=g) (f:=f) (m:=m) (st:=st) j
   generalize Xg rows m (k:Int)=ow at *
   generalize goM rows m (k:Int)=zf at *
   generalize Z5 rows g f m st j=R at *
   obtain ⟨z,fl⟩:=zf
   obtain ⟨⟨fb,ff⟩,st1⟩:=R
   simp only at kT hnx hsuc hown oc lm nn fo fl2 kOj htj hcj
   obtain ⟨hzs,hzl⟩:=hnx
   have HOW:∀ x ∈ fb++ow,I3.fits x:=fun x hx=>by
    rcases List.mem_append.1 hx with h9 | h9
    ·exact Ti (kOj.1.1 x h9)
    exact Ti (HOWN x h9)
   have HSUC:Hid (Z5 rows g f m st (j+1)=_):=hsuc
   have hlt3:(j:Int)<(kn:Int):=by omega
   have hj0:(0:Int)≤(j:Int):=by omega
   have hj9:j<3:=by omega
   generalize m.1.getD k 0=pc at *
   clear hsuc hkj hz hd
   obtain ⟨va,vc,rfl⟩:=ZY fo
   have pN:=Blk.new wr 98 [.slice none 0 0,.int .i64 0,.int .i64 0,.int .i64 0,.slice none 0 0,.int .i64 0,.int .i64 0,.int .i64 0,.slice none 0 0,.int .i64 0,.int .i64 0,.int .i64 0,.int .i64 0,.int .i64 0,.int .i64 0,.int .i64 0,.int .i64 0,.int .i64 0]
   have hbN:Below wr.heap.size wr (wr.alloc (.cells #[.slice none 0 0,.int .i64 0,.int .i64 0,.int .i64 0,.slice none 0 0,.int .i64 0,.int .i64 0,.int .i64 0,.slice none 0 0,.int .i64 0,.int .i64 0,.int .i64 0,.int .i64 0,.int .i64 0,.int .i64 0,.int .i64 0,.int .i64 0,.int .i64 0] 98)):=by go_grown
   have pM:=mc.below hbN
   go_wp2_with (first | refine Zd rfl 98 _ rfl Y rfl mc _ Tryz.underlying98 rfl (by kernel_rfl) ?_ | refine Zd rfl 98 _ rfl Y rfl pM _ Tryz.underlying98 rfl (by kernel_rfl) ?_ | refine Ze rfl 98 _ _ rfl wr.heap.size (Zi cs.1.val cs.2.1.val cs.2.2.val m) rfl rfl pN (by kernel_rfl) rfl rfl ?_)
   intro u1 p1 g1
   have pZ:=p1.out
   have bz:Below wr.heap.size wr u1:=hbN.grown g1 hbN.size (fun q e=>by cases e;exact Nat.le_refl _)
   clear p1 g1 hbN pN pM hc
   obtain ⟨Z,hZ⟩:∃ Z,Z=wr.heap.size:=⟨_,rfl⟩
   rw [← hZ] at pZ ⊢
   have hZr:wr.heap.size≤Z:=by omega
   clear hZ
   have kTx:=kT u1 Z ⟨pZ,fun q hq=>(hI q hq).below (Zb oc.base bz)⟩
   clear kT
   go_wp2_with fail
   refine kTx.mono ?_
   rintro e u2 ⟨rfl,pZ2,g2⟩
   have b2:Below wr.heap.size wr u2:=bz.grown g2 bz.size (fun q e=>by cases e;exact hZr)
   clear kTx pZ bz g2
   have pN:=Blk.new u2 103 [.int .i64 0,.int .i64 0,.int .i64 0]
   have hbN:Below u2.heap.size u2 (u2.alloc (.cells #[.int .i64 0,.int .i64 0,.int .i64 0] 103)):=by go_grown
   go_wp2_with (refine Ze rfl 103 _ _ rfl u2.heap.size [.int .i64 fl,.int .i64 (k:Int),.int .i64 pc] rfl rfl pN (by kernel_rfl) rfl rfl ?_)
   intro u3 p3 g3
   have pG:=p3.out
   have b3:Below u2.heap.size u2 u3:=hbN.grown g3 hbN.size (fun q e=>by cases e;exact Nat.le_refl _)
   replace pZ2:=pZ2.below b3
   have bz:=Zb b2 b3
   clear p3 g3 hbN pN b2 b3
   generalize u2.heap.size=G at *
   have hrz:=bz.size
   replace oc:=oc.below bz
   replace mc:=mc.below bz
   replace ls:=ls.below bz
   replace fo:=Z1 fo bz
   replace fe:=Z1 fe bz
   replace fs:=fs.turn (vf':=.slice va fb.length vc) (vt':=.slice ta (j+1) tc) bz.size (fun q h1 h2 h3 h4 h5=>⟨bz.block q h1,h4,h5⟩)
   replace kp:=kp.bel bz
   replace pR:=pR.below bz
   have hCZ:C≠Z:=fun e9=>by subst e9;exact absurd (oc.box.symm.trans pZ2) (by intro h9;cases h9)
   clear bz
   have cG0:u3.cell? ⟨G,0,none⟩=some (.int .i64 fl):=by simpa using pG.cell 0
   have hwr3:w.heap.size≤u3.heap.size:=kp.size
   go_upto_if 28 with fail
   go_cut [7] from 28 to 32 (fun s7 W=>TX u3 W w.heap.size (.slice va fb.length vc) (fb++ow) s7)
   case first =>
    by_cases hf9:fl=0
    ·subst hf9
     rw [if_pos rfl] at hown
     subst hown
     have HQ:Hid (TX u3 u3 w.heap.size (.slice va fb.length vc) (fb++[]) (.slice va fb.length vc)):=TX.mk9 (by rw [List.append_nil];exact fo) (N2 _ _) (.inl rfl)
     clear pG cG0 oc lm nn old mc ls fo fe fl1 fl2 fs sep kp pR ih kO
     go_wp2_with fail
     go_meet
     case rel=>exact HQ.out
    rw [if_neg hf9] at hown
    have hfn:(fl != 0)=true:=by simp [hf9]
    subst hown
    clear hf9 cG0 oc lm nn old mc ls fe fl1 fl2 fs sep kp pR ih kO
    go_wp2_with (first | refine Zd rfl 103 _ rfl G rfl pG _ Tryz.underlying103 rfl (by kernel_rfl) ?_ | (at_builtin;refine wpList_append_own_at _ rfl _ _ 28 rfl w.heap.size 103 i0 (.agg #[.int .i64 0,.int .i64 0,.int .i64 0]) 3 24 Tryz.underlying28 hi9 hz0 hz1 hz2 rfl (by decide) _ _ _ rfl (fo.alloc _) ⟨u3.heap.size,0,none⟩ 1 1 [.int .i64 fl,.int .i64 (k:Int),.int .i64 pc] rfl rfl (TD (Zj _ _ _ rfl)) (Bl _ _ _) ?c3 ?c4 ?c5 ?_))
    case c3=>have h9:fb.length≤1+3*39:=kOj.1.2.2.1;unfold maxLen;omega
    case c4=>have h9:fb.length≤1+3*39:=kOj.1.2.2.1;omega
    case c5=>simp;omega
    intro v6 w6 q6 gr _ at6
    have ha:Below u3.heap.size u3 (u3.alloc (.cells #[.int .i64 fl,.int .i64 (k:Int),.int .i64 pc] 103)):=by go_grown
    have HQ:Hid (TX u3 w6 w.heap.size (.slice va fb.length vc) (fb++[(fl,(k:Int),pc)]) v6):=TX.mk9 (by rw [MI,List.length_append];exact q6) (Sw ha gr) (by
     rcases at6 with h9 | h9
     ·exact .inl h9
     exact .inr ⟨_,h9,by simp⟩)
    clear ha gr at6 q6 fo pG
    go_wp2_with fail
    go_meet
    case rel=>exact HQ.out
   obtain ⟨va7,vc7,rfl,q7,g7,at7⟩:=hcut
   have hlw:(fb++ow).length≤200:=by
    have h9:fb.length≤1+3*39:=kOj.1.2.2.1
    rw [List.length_append]
    omega
   clear hown HOWN howl
   generalize fb++ow=fw at *
   have hfC:(Value.slice va fb.length vc).ownBlock≠some C:=Zk fo oc.box (by decide)
   have hfn:=oc.norow fo
   have hfw:=fun j (hj:(Value.slice va fb.length vc).ownBlock=some j)=>Yc fo hj
   have hv7:∀ q,q<u3.heap.size→(Value.slice va fb.length vc).ownBlock≠some q→(Value.slice va7 fw.length vc7).ownBlock≠some q:=fun q h1 h2 h3=>by
    rcases at7 with h9 | ⟨q9,h9,h8⟩
    ·exact h2 (h9▸h3)
    rw [h9] at h3
    cases h3
    omega
   have sep2:∀ x ∈ L',∀ q,EnB x.2 q→(Value.slice va7 fw.length vc7).ownBlock≠some q∧(Value.slice ta (j+1) tc).ownBlock≠some q:=fun x hx q hq=>⟨hv7 q ((oc.ents x hx).1.blk11 hq).1 (sep x hx q hq).1,(sep x hx q hq).2⟩
   have oc4:=oc.grow g7 hfC hfn (fun j hj=>Nat.le_trans HS0.base.size (hfw j hj).1) (fun x hx q hq=>(sep x hx q hq).1)
   replace mc:=mc.kept g7 (Zk fo mc (by decide))
   replace pZ2:=pZ2.kept g7 (Zk fo pZ2 (by decide))
   replace pR:=pR.kept g7 (Zk fo pR (by decide))
   replace ls:Z0 wc bL (some ⟨lb,lo,none⟩,kn,kc) (Zm rows m 3):=World.ownsRow.kept ls g7 (Ap3.types ls fo (by decide)).or
   replace fe:wc.ownsRow w.heap.size 36 1 (.slice ta (j+1) tc) (j+1) vs:=World.ownsRow.kept fe g7 (Ap3.types fe fo (by decide)).or
   replace fs:=fs.turn (vf':=.slice va7 fw.length vc7) (vt':=.slice ta (j+1) tc) g7.size (fun q h1 h2 h3 h4 h5=>⟨g7.block q h1 (fun e=>h4 e.symm),hv7 q h1 h4,h5⟩)
   replace kp:=kp.gr g7 (fun j hj=>.inr (.inr (hfw j hj).1))
   clear at7 g7 hfC hfn hfw hv7 fo oc sep pG cG0 hrz
   have hjt:=Nat.mul_le_mul_right (UJ f) (show j+1≤3 by omega)
   rw [Nat.add_mul,Nat.one_mul] at hjt
   have kV:=ih z st1 n' L' wc hzs (by omega) kOj.2 (by omega) (by omega) lm oc4
   have he:=(Tv (g:=g) hp f z st1 hzs kOj.2).1
   go_wp2_with (refine Zd rfl 98 _ rfl Z rfl pZ2 _ Tryz.underlying98 rfl (by kernel_rfl) ?_)
   refine kV.mono ?_
   rintro e u4 ⟨⟨⟨ba,bn,bc⟩,⟨za,zn,zc⟩⟩,L2,n2,rfl,hEm,hOff,hEs,oc5,lm5,nn5,old5,kp5⟩
   clear kV
   generalize Z7 rows g f z st1=Q at *
   obtain ⟨⟨ek,eb,ez⟩,st2⟩:=Q
   have uE:ZW ek ((ba,bn,bc),(za,zn,zc))=.agg #[.string ek,.slice ba bn bc,.slice za zn zc]:=rfl
   simp only at oc5 lm5 nn5 he hEm hEs hOff
   simp only [uE]
   clear uE
   have hEs2:∀ q,EnB ((ba,bn,bc),(za,zn,zc)) q→(.slice va7 fw.length vc7:Value).ownBlock≠some q∧(Value.slice ta (j+1) tc).ownBlock≠some q:=fun q hq=>by
    rcases hEs q hq with h9 | ⟨x,hx,h9⟩
    ·exact ⟨fun e9=>by have:=(Yc q7 e9).2;omega,fun e9=>by have:=(Yc fe e9).2;omega⟩
    exact sep2 x hx q h9
   have sep3:∀ x ∈ L2,∀ q,EnB x.2 q→(.slice va7 fw.length vc7:Value).ownBlock≠some q∧(Value.slice ta (j+1) tc).ownBlock≠some q:=fun x hx q hq=>by
    rcases old5 x hx with h9 | h9
    ·exact sep2 x h9 q hq
    have h8:=h9 q hq
    exact ⟨fun e9=>by have:=(Yc q7 e9).2;omega,fun e9=>by have:=(Yc fe e9).2;omega⟩
   have hwc:=kp.size
   have old2:∀ x ∈ L2,x ∈ L∨∀ q,EnB x.2 q→w.heap.size≤q:=fun x hx=>by
    rcases old5 x hx with h9 | h9
    ·exact old x h9
    exact .inr (fun q hq=>Nat.le_trans hwc (h9 q hq))
   replace mc:=kp5.blk mc (Z8 mc oc4.box (by decide)) (oc4.noblk mc)
   replace pZ2:=kp5.blk pZ2 (Z8 pZ2 oc4.box (by decide)) (oc4.noblk pZ2)
   replace pR:=kp5.blk pR (Z8 pR oc4.box (by decide)) (oc4.noblk pR)
   replace ls:Z0 u4 bL (some ⟨lb,lo,none⟩,kn,kc) (Zm rows m 3):=kp5.row ls (Zk ls oc4.box (by decide)) (oc4.norow ls)
   have hqC:=Zk q7 oc4.box (by decide)
   have hqn:=oc4.norow q7
   have heC:=Zk fe oc4.box (by decide)
   have hen:=oc4.norow fe
   replace q7:=kp5.row q7 hqC hqn
   replace fe:=kp5.row fe heC hen
   replace fs:=fs.turn (vf':=.slice va7 fw.length vc7) (vt':=.slice ta (j+1) tc) kp5.size (fun q h1 h2 h3 h4 h5=>⟨by
    obtain ⟨es9,cl9,hb9⟩:=oc4.any
    exact kp5.block q h1 h2 (fun e9=>h3 es9 cl9 (by rw [e9];exact hb9)),h4,h5⟩)
   replace kp:=kp.trans kp5
   clear kp5 oc4 old5 old hEs sep2 hqC hqn heC hen lm
   have pN:=Blk.new u4 45 [.string ⟨#[]⟩,.slice none 0 0,.slice none 0 0]
   have hbN:Below u4.heap.size u4 (u4.alloc (.cells #[.string ⟨#[]⟩,.slice none 0 0,.slice none 0 0] 45)):=by go_grown
   go_wp2_with (refine Ze rfl 45 _ _ rfl u4.heap.size [.string ek,.slice ba bn bc,.slice za zn zc] rfl rfl pN (by kernel_rfl) rfl rfl ?_)
   intro u5 p5 g5
   have pE:=p5.out
   have b5:Below u4.heap.size u4 u5:=hbN.grown g5 hbN.size (fun q e=>by cases e;exact Nat.le_refl _)
   clear p5 g5 hbN pN
   obtain ⟨E,hEE⟩:∃ E,E=u4.heap.size:=⟨_,rfl⟩
   rw [← hEE] at pE ⊢
   clear hEE
   go_wp2_with fail
   have hdr:Below u5.heap.size u5 u5.drew:=by go_grown
   have cE1:u5.cell? ⟨E,1,none⟩=some (.slice ba bn bc):=by simpa using pE.cell 1
   refine wp_region_held_drew (S:=(fun w'=>w'.cell? ⟨E,1,none⟩=some (.slice ba bn bc))) (by kernel_rfl) cE1 (fun hS0=>?_)
   refine tkm 0 36 (.slice va7 fw.length vc7) ?_
   refine tkm 2 38 (.pointer (some ⟨E,1,none⟩)) ?_
   refine tkm 3 39 (.slice ba bn bc) ?_

   replace oc5:=oc5.below b5
   replace mc:=mc.below b5
   replace pZ2:=pZ2.below b5
   replace pR:=pR.below b5
   replace ls:=ls.below b5
   replace q7:=Z1 q7 b5
   replace fe:=Z1 fe b5
   replace fs:=fs.turn (vf':=.slice va7 fw.length vc7) (vt':=.slice ta (j+1) tc) b5.size (fun q h1 h2 h3 h4 h5=>⟨b5.block q h1,h4,h5⟩)
   replace hEm:=hEm.below b5
   replace kp:=kp.bel b5
   clear b5
   have bV:=hdr
   have hb0:=oc5.base
   have hwu5:=kp.size
   generalize u5.drew=V at *
   have kD:=U8 (stuck_is Z cs rows z V ⟨pZ2.below bV,fun k hk=>(hI k hk).below (Zb hb0 bV)⟩ hp hzs)
   rw [show (if YS rows z then [((14:Int),(0:Int),(0:Int))] else [])=ZC rows z from rfl] at kD
   refine tkr 1 37 (fun K hK=>?_)
   go_simp
   refine kD.mono ?_
   rintro e V1 ⟨⟨vd,rfl,qd⟩,hb1⟩
   obtain ⟨da,dc,rfl⟩:=ZY qd
   go_wp2_with fail
   refine hK.out _ _ (Za hb1 _ _ hS0) (fun hS1=>?_)
   clear hK kD
   replace bV:=Zb bV hb1
   try simp only [Act.put,tka,tkb,tkc]
   refine tkr 4 40 (fun K hK=>?_)
   have hal:Below V1.heap.size V1 (V1.alloc (.cells #[.slice va7 fw.length vc7,.slice da (ZC rows z).length dc,.slice ba bn bc] 28)):=by go_grown
   have pQ:Blk (V1.alloc (.cells #[.slice va7 fw.length vc7,.slice da (ZC rows z).length dc,.slice ba bn bc] 28)) V1.heap.size 28 [.slice va7 fw.length vc7,.slice da (ZC rows z).length dc,.slice ba bn bc]:=Zj _ _ _ rfl
   go_simp
   refine hK.out _ _ (Za hal _ _ hS1) (fun hS2=>?_)
   clear hK
   replace qd:=Z1 qd hal
   replace bV:=Zb bV hal
   clear hal hb1
   generalize (V1.alloc (.cells #[.slice va7 fw.length vc7,.slice da (ZC rows z).length dc,.slice ba bn bc] 28))=V2 at *
   generalize V1.heap.size=q1 at *
   try simp only [Act.put,tka,tkb,tkc]
   obtain ⟨_,_,e9,iF,gF,_⟩:=Vb (Z1 q7 bV) (fun x hx=>HOW x hx)
   cases e9
   obtain ⟨_,_,e9,iD,gD,_⟩:=Vb qd (fun x hx=>Ti (TC (UZ (rows:=rows) hx)))
   cases e9
   have iB:=(hEm.below bV).2.1
   have hbn:bn=eb.length:=iB.1.symm
   have hb37:eb.length≤37:=he.bugs
   have hd1:=UY rows z
   have c0:V2.cell? ⟨q1,0,none⟩=some (.slice va7 fw.length vc7):=by simpa using pQ.cell 0
   have c1:V2.cell? ⟨q1,1,none⟩=some (.slice da (ZC rows z).length dc):=by simpa using pQ.cell 1
   have c2:V2.cell? ⟨q1,2,none⟩=some (.slice ba bn bc):=by simpa using pQ.cell 2
   have kC:=Kc q1 va7 fw.length vc7 fw da (ZC rows z).length dc (ZC rows z) ba bn bc eb V2 iF iD iB (by omega) (by omega) (by omega) gF gD hOff.1 c0 c1 c2
   clear iF iD iB gF gD c0 c1 c2 pQ
   refine tkr 5 41 (fun K hK=>?_)
   go_simp
   refine kC.mono ?_
   rintro e V3 ⟨⟨v9,rfl,⟨na,nn9,nc,rfl⟩,q9⟩,hb3⟩
   go_wp2_with fail
   refine hK.out _ _ (Za hb3 _ _ hS2) (fun hS3=>?_)
   clear hK kC
   try simp only [Act.put,tka,tkb,tkc]
   refine tkm 6 7 (.slice na nn9 nc) ?_
   refine wpAnyH_done (by kernel_rfl) ?_ _
   clear hS0 hS1 hS2 hS3
   have hV2:=bV.size
   replace bV:=Zb bV hb3
   replace q9:V3.ownsRow V2.heap.size 103 3 (.slice na nn9 nc) (fw++ZC rows z++eb).length (Zn (fw++ZC rows z++eb)):=by
    have e9:fw.length+(ZC rows z).length+bn=(fw++ZC rows z++eb).length:=by rw [hbn];simp only [List.length_append]
    rw [e9] at q9
    exact q9
   clear hb3 qd q7
   have hvn:∀ q,q<u5.heap.size→(Value.slice na nn9 nc).ownBlock≠some q:=fun q h1 h2=>by
    have:=(Yc q9 h2).1
    omega
   have hsep5:∀ x ∈ L2,∀ q,EnB x.2 q→(Value.slice na nn9 nc).ownBlock≠some q:=fun x hx q hq=>hvn q ((oc5.ents x hx).1.blk11 hq).1
   replace oc5:=oc5.below bV
   replace mc:=mc.below bV
   replace pR:=pR.below bV
   replace ls:=ls.below bV
   replace fe:=Z1 fe bV
   replace fs:=fs.turn (vf':=.slice na nn9 nc) (vt':=.slice ta (j+1) tc) bV.size (fun q h1 h2 h3 h4 h5=>⟨bV.block q h1,hvn q h1,h5⟩)
   have hEb:=fun q (hq:EnB ((ba,bn,bc),(za,zn,zc)) q)=>hvn q (hEm.blk11 hq).1

   have hEb2:=fun q (hq:EnB ((ba,bn,bc),(za,zn,zc)) q)=>(hEs2 q hq).2
   have sep4:∀ x ∈ L2,∀ q,EnB x.2 q→(Value.slice na nn9 nc).ownBlock≠some q∧(Value.slice ta (j+1) tc).ownBlock≠some q:=fun x hx q hq=>⟨hsep5 x hx q hq,(sep3 x hx q hq).2⟩
   replace hEm:=hEm.below bV
   have cE2:V3.cell? ⟨E,2,none⟩=some (.slice za zn zc):=by simpa using (pE.below bV).cell 2
   replace kp:=kp.bel bV
   have hV3:=kp.size
   replace q9:=Yz q9 (Nat.le_trans hwu5 hV2)
   clear bV hV2 hvn hEs2 sep3 hsep5 pE pZ2 hb0 hb37 hd1 hbn hwu5
   go_wp2_with (at_builtin;go_loud (refine wpList_append_own_at _ rfl _ _ 168 rfl w.heap.size 36 j0 (.slice none 0 0) 1 24 Tryz.underlying168 hjI hy0 hy1 hy2 rfl (by decide) _ _ _ rfl (fe.alloc _) ⟨V3.heap.size,0,none⟩ 1 1 [.slice za zn zc] rfl rfl (cell_one_new _ _ _) (by simp [Value.oneCell']) ?c3 ?c4 ?c5 ?_))
   case c3=>unfold maxLen;omega
   case c4=>omega
   case c5=>simp;omega
   intro vt2 u6 q6 g6 _ at6
   have ha:Below V3.heap.size V3 (V3.alloc (.cells #[.slice za zn zc] 36)):=by go_grown
   have hsz6:(V3.alloc (.cells #[.slice za zn zc] 36)).heap.size=V3.heap.size+1:=by simp
   have gg:=Sw ha g6
   have htC:(Value.slice ta (j+1) tc).ownBlock≠some C:=Zk fe oc5.box (by decide)
   have htn:=oc5.norow fe
   have htw:=fun j9 (hj:(Value.slice ta (j+1) tc).ownBlock=some j9)=>Yc fe hj
   have hv9:∀ q,q<V3.heap.size→(Value.slice ta (j+1) tc).ownBlock≠some q→vt2.ownBlock≠some q:=fun q h1 h2 h3=>by
    rcases at6 with h9 | h9
    ·exact h2 (h9▸h3)
    rw [h9] at h3
    have h8:=Option.some.inj h3
    omega
   have oc6:=oc5.grow gg htC htn (fun j9 hj=>Nat.le_trans HS0.base.size (htw j9 hj).1) (fun x hx q hq=>(sep4 x hx q hq).2)
   replace mc:=mc.kept gg (Zk fe mc (by decide))
   replace pR:=pR.kept gg (Zk fe pR (by decide))
   replace ls:Z0 u6 bL (some ⟨lb,lo,none⟩,kn,kc) (Zm rows m 3):=World.ownsRow.kept ls gg (Ap3.types ls fe (by decide)).or
   have q10:u6.ownsRow w.heap.size 103 3 (.slice na nn9 nc) (fw++ZC rows z++eb).length (Zn (fw++ZC rows z++eb)):=World.ownsRow.kept q9 gg (Ap3.types q9 fe (by decide)).or
   have fs2:=fs.turn (vf':=.slice na nn9 nc) (vt':=vt2) gg.size (fun q h1 h2 h3 h4 h5=>⟨gg.block q h1 (fun e=>h5 e.symm),h4,hv9 q h1 h5⟩)
   have iZ:Yn .i64 u6 za zn zc ez:=hEm.2.2.1.same11 gg.size (fun q hq=>gg.block q (hEm.blk11 (.inr hq)).1 (fun e=>hEb2 q (.inr hq) e.symm))
   have fs3:=fs2.snoc (v:=.slice za zn zc) (xs:=ez) ⟨za,zn,zc,rfl,iZ,fun q hq=>⟨hOff.2 q (.inr hq),hEb q (.inr hq),hv9 q (hEm.blk11 (.inr hq)).1 (hEb2 q (.inr hq))⟩⟩
   have sep6:∀ x ∈ L2,∀ q,EnB x.2 q→(Value.slice na nn9 nc).ownBlock≠some q∧vt2.ownBlock≠some q:=fun x hx q hq=>⟨(sep4 x hx q hq).1,hv9 q ((oc5.ents x hx).1.blk11 hq).1 (sep4 x hx q hq).2⟩
   replace kp:=kp.gr gg (fun j9 hj=>.inr (.inr (htw j9 hj).1))
   have st9:G2 w0 w u6 C nb g n L st.2 cs rows f m st Y bL (some ⟨lb,lo,none⟩,kn,kc) (j+1) (.slice na nn9 nc) vt2 L2 n2 (vs++[.slice za zn zc]) (xss++[ez]):=by
    have e9:=HSUC.out
    refine ⟨by rw [e9];exact oc6,by rw [e9];exact lm5,by rw [e9];show n2+st.2≤n+st2.2;omega,old2,mc,ls,by rw [e9];exact q10,q6,⟨by rw [List.length_append,fl1];rfl,by rw [e9,List.flatten_append,fl2];simp⟩,fs3,sep6,kp⟩
   clear oc6 mc ls q10 fs2 iZ fs3 sep6 kp hv9 htC htn htw gg ha g6 at6 q6 q9 fe fs hEb hEb2 sep4 cE2 hEm oc5 hOff
   go_wp2
   go_roundw
   case rel=>exact ⟨j+1,n2,L2,_,_,by go_num,by omega,st9,pR⟩
   case measure=>simp [intOf];omega
  obtain rfl:j=kn:=by omega
  have e3:Z5 rows g f m st 3=Z5 rows g f m st j:=by rw [Rx (by omega),Rx (by omega)]
  have kOj:=(kO j).1
  have htw:=fun j9 (hj:(Value.slice ta (j+1) tc).ownBlock=some j9)=>Yc fe hj
  have HRES:Hid (∀ (x:Ending) (w':World),NM x w0 w w' C nb g n L st.2 (Ub m (Z5 rows g f m st j),(Z5 rows g f m st j).2)→NM x w0 w w' C nb g n L st.2 (Ub m (Z5 rows g f m st 3),(Z5 rows g f m st 3).2)):=fun x w' h=>by rw [e3];exact h
  clear e3
  generalize Z5 rows g f m st j=R at *
  obtain ⟨⟨fb,ff⟩,st1⟩:=R
  simp only at oc lm nn fo fl2 kOj
  obtain ⟨va,vc,rfl⟩:=ZY fo
  obtain ⟨_,_,e9,iF,gF,_⟩:=Vb fo (fun x hx=>Ti (kOj.1 x hx))
  cases e9
  have hfl:fb.length≤1+3*39:=kOj.2.2.1
  have hfl2:ff.length≤3+3*23:=kOj.2.2.2
  have hkw:=kp.size
  have hCw:C<w.heap.size:=HS0.box.lt
  have kB:=TS va fb.length vc fb none 0 0 [] wr iF ⟨rfl,Nat.le_refl _,by unfold maxLen;omega,by simp,.inl rfl⟩ (by omega) (by omega) gF ⟨fun _=>rfl,fun x hx=>by cases hx⟩
  have iT:=TR.own fe fl1 fs.allL
  have hge:¬ (j:Int)<(j:Int):=by omega
  clear fo iF gF fs sep mc ls ih kO HNX
  go_wp2_with fail
  refine kB.mono ?_
  rintro e w5 ⟨⟨vb,rfl,qb⟩,hb⟩
  have kM:=Gi ta (j+1) tc xss w5 (iT.below hb) (by omega) (by rw [fl2];omega) (fun x hx=>Mb (kOj.2.1 x (by rw [fl2] at hx;exact hx)))
  replace qb:=Yz qb hkw
  obtain ⟨ba,bc,rfl⟩:=ZY qb
  replace oc:=oc.below hb
  replace kp:=kp.bel hb
  replace pR:=pR.below hb
  clear hb kB iT fe
  have hkw5:=kp.size
  go_wp2_with fail
  refine kM.mono ?_
  rintro e w6 ⟨⟨vz,rfl,qz⟩,hb⟩
  rw [fl2] at qz
  replace qz:=Yz qz hkw5
  obtain ⟨za,zc,rfl⟩:=ZY qz
  replace qb:=Z1 qb hb
  replace oc:=oc.below hb
  replace kp:=kp.bel hb
  replace pR:=pR.below hb
  clear hb kM
  go_wp2_with (refine Ze rfl 45 _ _ rfl Z6 [.string key,.slice ba (ZK fb []).length bc,.slice za (Yx ff).length zc] rfl rfl pR (by kernel_rfl) rfl rfl ?_)
  intro u9 p9 g9
  have pZ:=p9.out
  have hZC:Z6≠C:=Z8 pR oc.box (by decide)
  have hZn:=oc.noblk pR
  have hXZ:∀ x ∈ L',∀ q,EnB x.2 q→q≠Z6:=fun x hx q hq=>(oc.ents x hx).1.off11 hq pR (Yd ⟨#[]⟩ ((none,0,0),(none,0,0)))
  have oc9:=oc.grow g9 (fun e=>hZC (by cases e;rfl)) (fun e=>hZn (by cases e;rfl)) (fun j9 e=>by cases e;exact Nat.le_trans HS0.base.size hZw) (fun x hx q hq e=>hXZ x hx q hq (by cases e;rfl))
  have kp9:=kp.gr g9 (fun j9 e=>.inr (.inr (by cases e;exact hZw)))
  have qb9:=World.ownsRow.kept qb g9 (.inr (Zk qb pR (by decide)))
  have qz9:=World.ownsRow.kept qz g9 (.inr (Zk qz pR (by decide)))
  obtain ⟨_,_,e9,iB,gB,oB⟩:=Vb qb9 (fun x hx=>Ti (by
   rcases YF.1 hx with h9 | h9
   ·exact kOj.1 x h9
   cases h9))
  cases e9
  obtain ⟨_,_,e9,iZ,gZ,oZ⟩:=SB qz9
  cases e9
  have hwf:∀ y ∈ Yx ff,(Lit.int .i64 y).wf=true:=fun y hy=>Mb (kOj.2.1 y ((XV _ y).1 hy))
  have HR9:Hid (NM (.returned (.agg #[.string key,.slice ba (ZK fb []).length bc,.slice za (Yx ff).length zc])) w0 w u9 C nb g n L st.2 (Ub m (Z5 rows g f m st 3),(Z5 rows g f m st 3).2)):=by
   refine HRES.out _ _ ⟨((ba,(ZK fb []).length,bc),(za,(Yx ff).length,zc)),L',n',by rw [HKEY.out];rfl,⟨⟨by rw [← show Zt m=(Ub m ((fb,ff),st1)).1 from rfl,← HKEY.out];exact hks,gB.1,gZ.1⟩,iB,iZ,hwf⟩,⟨gB,fun j9 hj=>?_⟩,fun j9 hj=>?_,oc9,lm,nn,old,kp9⟩
   ·rcases hj with hj | hj
    ·have:=(Yc qb9 (oB j9 hj)).1
     omega
    have:=(Yc qz9 (oZ j9 hj)).1
    omega
   rcases hj with hj | hj
   ·exact (Yc qb9 (oB j9 hj)).1
   exact (Yc qz9 (oZ j9 hj)).1
  have q0:=pZ.cell 0
  have q1:=pZ.cell 1
  have q2:=pZ.cell 2
  simp only [List.getElem?_cons_zero,List.getElem?_cons_succ] at q0 q1 q2
  clear oc9 kp9 qb9 qz9 iB gB oB iZ gZ oZ hwf pZ pR oc kp qb qz g9 HRES hXZ
  go_wp2
  refine bodyPost_ret (by simp [results,Tryz.results87,go_sem,q0,q1,q2];try rfl) rfl ?_
  exact HR9.out
end Go.Proofs.YtgmhhegckcionaaGreatDoor
