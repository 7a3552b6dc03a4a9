/-
  Joined: Ent2, Ent3, Ent4, MarkT, Ent5, Ent6, Ent7, Ent8, SizeB.
-/
import Derived.Test.YtmhlokahmblboaaGreatDoorQ26

namespace Go.Proofs.YtmhlokahmblboaaGreatDoor
set_option maxRecDepth 100000
set_option maxHeartbeats 16000000
open Go.RowKit
set_option linter.unusedVariables false
set_option linter.unusedSimpArgs false

def Y0 (w:World) (B:Nat) (vb vf:Value) (e:E3):Prop:=w.ownsRow B 90 3 vb e.2.1.length (Zk e.2.1)∧w.ownsRow B 3 1 vf e.2.2.length (e.2.2.map (Value.int .i64))
theorem Y0.below {w w':World} {B:Nat} {vb vf:Value} {e:E3} (h:Y0 w B vb vf e) (hb:Below w.heap.size w w'):Y0 w' B vb vf e:=⟨Zp h.1 hb,Zp h.2 hb⟩
theorem Y0.lower {w:World} {B B':Nat} {vb vf:Value} {e:E3} (h:Y0 w B vb vf e) (hB:B'≤B):Y0 w B' vb vf e:=⟨ZT h.1 hB,ZT h.2 hB⟩
theorem Y0.slices {w:World} {B:Nat} {vb vf:Value} {e:E3} (h:Y0 w B vb vf e):∃ s:Sl2,vb=.slice s.1.1 s.1.2.1 s.1.2.2∧vf=.slice s.2.1 s.2.2.1 s.2.2.2:=by
 obtain ⟨a,c,e1⟩:=ZH h.1
 obtain ⟨a',c',e2⟩:=ZH h.2
 exact ⟨((a,_,c),(a',_,c')),e1,e2⟩
theorem Zj.of_ownB9 {w:World} {B:Nat} {v:Value} {xs:List I3} (h:w.ownsRow B 90 3 v xs.length (Zk xs)) (hf:∀ x ∈ xs,I3.fits x):∃ a cap,v=.slice a xs.length cap∧Zj w a xs.length cap xs:=by
 rcases h.2 with ⟨hv,h0⟩ | ⟨g,cap,cur,hv,_⟩
 ·obtain rfl:xs=[]:=List.eq_nil_of_length_eq_zero h0
  exact ⟨none,0,hv,rfl,Nat.le_refl _,by unfold maxLen;omega,by simp,.inl rfl⟩
 subst hv
 exact ⟨_,_,rfl,Zj.of_owns h rfl hf rfl⟩
def E3.fits (e:E3):Prop:=e.1.size≤maxLen∧(∀ x ∈ e.2.1,I3.fits x)∧∀ z ∈ e.2.2,(Lit.int .i64 z).wf=true
theorem YL.fits {w:World} {s:Sl2} {e:E3} (h:YL w s e):e.fits:=⟨h.1.1,h.2.1.2.2.2.1,h.2.2.2⟩
theorem Ts {w:World} {B e s n:Nat} {a:Option Addr} {m c:Nat} {xs:List Value} (h:w.ownsRow B e s (.slice a m c) n xs):a=none→c=0:=by
 rcases h.2 with ⟨hv,_⟩ | ⟨g,cap,cur,hv,_⟩
 ·injection hv with e1 e2 e3
  exact fun _=>e3
 injection hv with e1 e2 e3
 intro ha
 rw [ha] at e1
 cases e1
theorem Y0.mem {w:World} {B:Nat} {s:Sl2} {e:E3} (h:Y0 w B (.slice s.1.1 s.1.2.1 s.1.2.2) (.slice s.2.1 s.2.2.1 s.2.2.2) e) (hf:e.fits):YL w s e:=by
 obtain ⟨⟨a1,n1,c1⟩,⟨a2,n2,c2⟩⟩:=s
 obtain ⟨h1,h2⟩:=h
 simp only at h1 h2
 refine ⟨⟨hf.1,Ts h1,Ts h2⟩,?_,?_,hf.2.2⟩
 ·obtain ⟨a,cap,hv,hI⟩:=Zj.of_ownB9 h1 hf.2.1
  injection hv with e1 e2 e3
  subst e1 e2 e3
  exact hI
 obtain ⟨a,cap,hv⟩:=ZH h2
 injection hv with e1 e2 e3
 subst e1 e2 e3
 exact QW h2

theorem Mv (a:Option Addr) (len cap:Nat) (zs:List Int) (w:World) (h:ZW .i64 w a len cap zs) (hlen:len≤1048576) :
  Calls Tryz.prog 155 #[.slice a len cap] w fun e w'=>(∃ g c,e=.returned (.slice g len c)∧w'.ownsRow w.heap.size 3 1 (.slice g len c) len (zs.map (Value.int .i64)))∧Below w.heap.size w w':=by
 refine (to8 a len cap zs w h hlen).mono ?_
 rintro e w' ⟨rfl,⟨g,rfl,q⟩,hb⟩
 exact ⟨⟨_,_,rfl,q⟩,hb⟩

theorem Mu (e:E3) (s:Sl2) (w:World) (h:YL w s e) (h1:e.2.1.length≤1048576) (h2:e.2.2.length≤1048576) :
  Calls Tryz.prog 103 #[ZU e.1 s] w fun x w'=>(∃ s',x=.returned (ZU e.1 s')∧Y0 w' w.heap.size (.slice s'.1.1 s'.1.2.1 s'.1.2.2) (.slice s'.2.1 s'.2.2.1 s'.2.2.2) e)∧Below w.heap.size w w':=by
 obtain ⟨⟨hk,_⟩,hB,hF,hfw⟩:=h
 have l1:=hB.1
 have l2:=hF.1
 obtain ⟨k,bs,zs⟩:=e
 obtain ⟨⟨a1,n1,c1⟩,⟨a2,n2,c2⟩⟩:=s
 unfold ZU
 simp only at *
 rw [l1] at h1
 rw [l2] at h2
 have kB:=fun W (hb:Below w.heap.size w W)=>Mt a1 n1 c1 bs W (hB.below hb) h1
 have kF:=fun W (hb:Below w.heap.size w W)=>Mv a2 n2 c2 zs W (hF.below hb) h2
 clear hB hF
 go_enter Tryz.func103,Tryz.ntmps103
 have bw:Below w.heap.size w (((w.alloc (.cells #[.string k,.slice a1 n1 c1,.slice a2 n2 c2] 170)).alloc (.cells #[.string ⟨#[]⟩,.slice none 0 0,.slice none 0 0] 109)).alloc (.cells #[.string k,.slice none 0 0,.slice none 0 0] 109)):=by go_grown
 have pA:Blk (((w.alloc (.cells #[.string k,.slice a1 n1 c1,.slice a2 n2 c2] 170)).alloc (.cells #[.string ⟨#[]⟩,.slice none 0 0,.slice none 0 0] 109)).alloc (.cells #[.string k,.slice none 0 0,.slice none 0 0] 109)) w.heap.size 170 [.string k,.slice a1 n1 c1,.slice a2 n2 c2]:=Zf _ (Zf _ (Zh _ _ _ rfl))
 have pR:Blk (((w.alloc (.cells #[.string k,.slice a1 n1 c1,.slice a2 n2 c2] 170)).alloc (.cells #[.string ⟨#[]⟩,.slice none 0 0,.slice none 0 0] 109)).alloc (.cells #[.string k,.slice none 0 0,.slice none 0 0] 109)) (w.heap.size+1) 109 [.string ⟨#[]⟩,.slice none 0 0,.slice none 0 0]:=Zf _ (Zh _ _ _ (by simp))
 have pO:Blk (((w.alloc (.cells #[.string k,.slice a1 n1 c1,.slice a2 n2 c2] 170)).alloc (.cells #[.string ⟨#[]⟩,.slice none 0 0,.slice none 0 0] 109)).alloc (.cells #[.string k,.slice none 0 0,.slice none 0 0] 109)) (w.heap.size+1+1) 109 [.string k,.slice none 0 0,.slice none 0 0]:=Zh _ _ _ (by simp)
 go_wp2_with fail
 refine (kB _ bw).mono ?_
 generalize (((w.alloc (.cells #[.string k,.slice a1 n1 c1,.slice a2 n2 c2] 170)).alloc (.cells #[.string ⟨#[]⟩,.slice none 0 0,.slice none 0 0] 109)).alloc (.cells #[.string k,.slice none 0 0,.slice none 0 0] 109))=U at *
 rintro x w1 ⟨rfl,⟨cs,rfl,qB⟩,hb⟩
 have hU:w.heap.size+1+1<U.heap.size:=pO.lt
 replace bw:=Zm bw hb
 replace pA:=pA.below hb
 replace pR:=pR.below hb
 replace pO:=pO.below hb
 clear hb kB
 have u1:=pO.cell 1
 have f1:=pO.frozen 1
 simp only [List.getElem?_cons_zero,List.getElem?_cons_succ] at u1
 replace qB:=ZT qB (show w.heap.size+1+1+1≤U.heap.size by omega)
 clear hU
 generalize U.heap.size=gb at *
 replace qB:=ownsRow_setCell_below qB (a:=⟨w.heap.size+1+1,1,none⟩) (show w.heap.size+1+1<w.heap.size+1+1+1 by omega) (.slice (some ⟨gb,0,none⟩) n1 n1)
 replace bw:=bw.setCell (p:=⟨w.heap.size+1+1,1,none⟩) (show w.heap.size≤w.heap.size+1+1 by omega) (.slice (some ⟨gb,0,none⟩) n1 n1)
 replace pA:=pA.off ⟨w.heap.size+1+1,1,none⟩ (.slice (some ⟨gb,0,none⟩) n1 n1) (by simp;omega)
 replace pR:=pR.off ⟨w.heap.size+1+1,1,none⟩ (.slice (some ⟨gb,0,none⟩) n1 n1) (by simp)
 replace pO:=pO.set 1 (.slice (some ⟨gb,0,none⟩) n1 n1)
 simp only [List.set_cons_zero,List.set_cons_succ] at pO
 have y2:=pA.cell 2
 simp only [List.getElem?_cons_zero,List.getElem?_cons_succ] at y2
 go_wp2_with fail
 refine (kF _ bw).mono ?_
 generalize (w1.setCell ⟨w.heap.size+1+1,1,none⟩ (.slice (some ⟨gb,0,none⟩) n1 n1))=U2 at *
 rintro x w2 ⟨⟨ga,gc,rfl,qF⟩,hb⟩
 have hU:w.heap.size+1+1<U2.heap.size:=pO.lt
 replace bw:=Zm bw hb
 replace pR:=pR.below hb
 replace pO:=pO.below hb
 replace qB:=Zp qB hb
 clear hb kF y2 u1 f1 pA
 have u2:=pO.cell 2
 have f2:=pO.frozen 2
 simp only [List.getElem?_cons_zero,List.getElem?_cons_succ] at u2
 replace qF:=ZT qF (show w.heap.size+1+1+1≤U2.heap.size by omega)
 clear hU
 replace qB:=ownsRow_setCell_below qB (a:=⟨w.heap.size+1+1,2,none⟩) (show w.heap.size+1+1<w.heap.size+1+1+1 by omega) (.slice ga n2 gc)
 replace qF:=ownsRow_setCell_below qF (a:=⟨w.heap.size+1+1,2,none⟩) (show w.heap.size+1+1<w.heap.size+1+1+1 by omega) (.slice ga n2 gc)
 replace bw:=bw.setCell (p:=⟨w.heap.size+1+1,2,none⟩) (show w.heap.size≤w.heap.size+1+1 by omega) (.slice ga n2 gc)
 replace pR:=pR.off ⟨w.heap.size+1+1,2,none⟩ (.slice ga n2 gc) (by simp)
 replace pO:=pO.set 2 (.slice ga n2 gc)
 simp only [List.set_cons_zero,List.set_cons_succ] at pO
 have o0:=pO.cell 0
 have o1:=pO.cell 1
 have o2:=pO.cell 2
 have r0:=pR.cell 0
 have r1:=pR.cell 1
 have r2:=pR.cell 2
 have fr0:=pR.frozen 0
 have fr1:=pR.frozen 1
 have fr2:=pR.frozen 2
 simp only [List.getElem?_cons_zero,List.getElem?_cons_succ] at o0 o1 o2 r0 r1 r2
 clear pO
 have pZ:=((pR.set 0 (.string k)).set 1 (.slice (some ⟨gb,0,none⟩) n1 n1)).set 2 (.slice ga n2 gc)
 simp only [List.set_cons_zero,List.set_cons_succ] at pZ
 have z0:=pZ.cell 0
 have z1:=pZ.cell 1
 have z2:=pZ.cell 2
 simp only [List.getElem?_cons_zero,List.getElem?_cons_succ] at z0 z1 z2
 have bz:=((bw.setCell (p:=⟨w.heap.size+1,0,none⟩) (show w.heap.size≤w.heap.size+1 by omega) (.string k)).setCell (p:=⟨w.heap.size+1,1,none⟩) (show w.heap.size≤w.heap.size+1 by omega) (.slice (some ⟨gb,0,none⟩) n1 n1)).setCell (p:=⟨w.heap.size+1,2,none⟩) (show w.heap.size≤w.heap.size+1 by omega) (.slice ga n2 gc)
 replace qB:=ownsRow_setCell_below (ownsRow_setCell_below (ownsRow_setCell_below qB (a:=⟨w.heap.size+1,0,none⟩) (show w.heap.size+1<w.heap.size+1+1+1 by omega) (.string k)) (a:=⟨w.heap.size+1,1,none⟩) (show w.heap.size+1<w.heap.size+1+1+1 by omega) (.slice (some ⟨gb,0,none⟩) n1 n1)) (a:=⟨w.heap.size+1,2,none⟩) (show w.heap.size+1<w.heap.size+1+1+1 by omega) (.slice ga n2 gc)
 replace qF:=ownsRow_setCell_below (ownsRow_setCell_below (ownsRow_setCell_below qF (a:=⟨w.heap.size+1,0,none⟩) (show w.heap.size+1<w.heap.size+1+1+1 by omega) (.string k)) (a:=⟨w.heap.size+1,1,none⟩) (show w.heap.size+1<w.heap.size+1+1+1 by omega) (.slice (some ⟨gb,0,none⟩) n1 n1)) (a:=⟨w.heap.size+1,2,none⟩) (show w.heap.size+1<w.heap.size+1+1+1 by omega) (.slice ga n2 gc)
 clear pR pZ bw
 go_wp2
 refine bodyPost_ret (by simp [results,Tryz.results103,go_sem,z0,z1,z2];try rfl) rfl ?_
 refine ⟨⟨((some ⟨gb,0,none⟩,n1,n1),(ga,n2,gc)),rfl,?_,?_⟩,bz⟩
 ·rw [l1]
  exact ZT qB (by omega)
 rw [l2]
 exact ZT qF (by omega)


theorem Vy:(Tryz.prog.info? 109).map (fun i=>(i.zero,i.size,i.bytes))=some (some (.agg #[.string ⟨#[]⟩,.slice none 0 0,.slice none 0 0]),3,64):=by kernel_rfl

def Gn (u v:Value):Prop:=u.ownBlock=none∨u.ownBlock≠v.ownBlock
def YA (w:World) (B k:Nat) (cs:List Value) (es:List E3):Prop:=
 (∀ t,t<k→cs[t*3]?=some (.string (es.getD t e3d).1)∧Y0 w B (cs.getD (t*3+1) undef) (cs.getD (t*3+2) undef) (es.getD t e3d)) ∧
 ∀ t t',t<k→t'<k→t≠t'→Gn (cs.getD (t*3+1) undef) (cs.getD (t'*3+1) undef)∧Gn (cs.getD (t*3+2) undef) (cs.getD (t'*3+2) undef)
theorem YA.below {w w':World} {B k:Nat} {cs:List Value} {es:List E3} (h:YA w B k cs es) (hb:Below w.heap.size w w'):YA w' B k cs es:=⟨fun t ht=>⟨(h.1 t ht).1,(h.1 t ht).2.below hb⟩,h.2⟩
theorem Y0.setP {w:World} {B P j:Nat} {vb vf:Value} {e:E3} (h:Y0 w B vb vf e) (h1:vb.ownBlock≠some P) (h2:vf.ownBlock≠some P) (u:Value):Y0 (w.setCell ⟨P,j,none⟩ u) B vb vf e:=
 ⟨ownsRow_setCell_other h.1 h1 u,ownsRow_setCell_other h.2 h2 u⟩
theorem Wf {w:World} {B B' e s n:Nat} {u v:Value} {xs:List Value} (hu:w.ownsRow B e s u n xs) (hv:∀ x,v.ownBlock=some x→w.heap.size≤x):Gn u v∧Gn v u:=by
 constructor
 ·rcases hb:u.ownBlock with _ | x
  ·exact .inl hb
  refine .inr ?_
  rw [hb]
  intro h
  have:=(hu.lt x hb).2
  have:=hv x h.symm
  omega
 rcases hb:v.ownBlock with _ | x
 ·exact .inl hb
 refine .inr ?_
 rw [hb]
 intro h
 have:=(hu.lt x h.symm).2
 have:=hv x hb
 omega
theorem Kr {cs:List Value} {i:Nat} {a b c:Value} (h:i+2<cs.length) :
  (∀ j,j<i∨i+2<j→(((cs.set i a).set (i+1) b).set (i+2) c)[j]?=cs[j]?)∧(((cs.set i a).set (i+1) b).set (i+2) c)[i]?=some a∧(((cs.set i a).set (i+1) b).set (i+2) c)[i+1]?=some b∧(((cs.set i a).set (i+1) b).set (i+2) c)[i+2]?=some c:=by
 refine ⟨fun j hj=>?_,?_,?_,?_⟩
 ·rw [List.getElem?_set_ne (by omega),List.getElem?_set_ne (by omega),List.getElem?_set_ne (by omega)]
 ·rw [List.getElem?_set_ne (by omega),List.getElem?_set_ne (by omega),List.getElem?_set_self (by omega)]
 ·rw [List.getElem?_set_ne (by omega),List.getElem?_set_self (by simp;omega)]
 rw [List.getElem?_set_self (by simp;omega)]
theorem YA.put {w w':World} {B P k:Nat} {cs:List Value} {es:List E3} {vb vf:Value} (h:YA w B k cs es) (hb:Below w.heap.size w w') (hk:k*3+2<cs.length)
  (hn:Y0 w' w.heap.size vb vf (es.getD k e3d)) (hB:B≤w.heap.size) (hP:P<w.heap.size) (hPn:∀ t,t<k→(cs.getD (t*3+1) undef).ownBlock≠some P∧(cs.getD (t*3+2) undef).ownBlock≠some P) :
  YA (((w'.setCell ⟨P,k*3,none⟩ (.string (es.getD k e3d).1)).setCell ⟨P,k*3+1,none⟩ vb).setCell ⟨P,k*3+2,none⟩ vf) B (k+1) (((cs.set (k*3) (.string (es.getD k e3d).1)).set (k*3+1) vb).set (k*3+2) vf) es:=by
 obtain ⟨g1,g2,g3,g4⟩:=Kr (a:=.string (es.getD k e3d).1) (b:=vb) (c:=vf) hk
 generalize ((cs.set (k*3) (.string (es.getD k e3d).1)).set (k*3+1) vb).set (k*3+2) vf=ds at *
 have old:∀ t,t<k→ds[t*3]?=cs[t*3]?∧ds.getD (t*3+1) undef=cs.getD (t*3+1) undef∧ds.getD (t*3+2) undef=cs.getD (t*3+2) undef:=fun t ht =>
  ⟨g1 _ (by omega),by rw [List.getD,List.getD,g1 _ (by omega)],by rw [List.getD,List.getD,g1 _ (by omega)]⟩
 have nb:ds.getD (k*3+1) undef=vb:=by rw [List.getD,g3];rfl
 have nf:ds.getD (k*3+2) undef=vf:=by rw [List.getD,g4];rfl
 have lb:∀ x,vb.ownBlock=some x→w.heap.size≤x:=fun x hx=>(hn.1.lt x hx).1
 have lf:∀ x,vf.ownBlock=some x→w.heap.size≤x:=fun x hx=>(hn.2.lt x hx).1
 have pb:vb.ownBlock≠some P:=fun e=>by have:=lb P e;omega
 have pf:vf.ownBlock≠some P:=fun e=>by have:=lf P e;omega
 refine ⟨fun t ht=>?_,fun t t' ht ht' hne=>?_⟩
 ·by_cases e:t=k
  ·subst e
   rw [nb,nf]
   exact ⟨g2,(((hn.lower hB).setP pb pf _).setP pb pf _).setP pb pf _⟩
  obtain ⟨o1,o2,o3⟩:=old t (by omega)
  obtain ⟨h1,h2⟩:=h.1 t (by omega)
  obtain ⟨q1,q2⟩:=hPn t (by omega)
  rw [o1,o2,o3]
  exact ⟨h1,(((h2.below hb).setP q1 q2 _).setP q1 q2 _).setP q1 q2 _⟩
 by_cases e:t=k
 ·subst e
  obtain ⟨_,o2,o3⟩:=old t' (by omega)
  obtain ⟨_,h2⟩:=h.1 t' (by omega)
  rw [nb,nf,o2,o3]
  exact ⟨(Wf (B':=0) h2.1 lb).2,(Wf (B':=0) h2.2 lf).2⟩
 obtain ⟨_,o2,o3⟩:=old t (by omega)
 by_cases e':t'=k
 ·subst e'
  obtain ⟨_,h2⟩:=h.1 t (by omega)
  rw [nb,nf,o2,o3]
  exact ⟨(Wf (B':=0) h2.1 lb).1,(Wf (B':=0) h2.2 lf).1⟩
 obtain ⟨_,o2',o3'⟩:=old t' (by omega)
 rw [o2,o3,o2',o3']
 exact h.2 t t' (by omega) (by omega) hne

def Yo (w:World) (B:Nat) (v:Value) (es:List E3):Prop:=∃ cs,w.ownsRow B 109 3 v es.length cs∧YA w B es.length cs es
theorem Yo.below {w w':World} {B:Nat} {v:Value} {es:List E3} (h:Yo w B v es) (hb:Below w.heap.size w w'):Yo w' B v es:=by
 obtain ⟨cs,h1,h2⟩:=h
 exact ⟨cs,Zp h1 hb,h2.below hb⟩
theorem Yo.ents {w:World} {B:Nat} {a:Option Addr} {len cap:Nat} {es:List E3} (h:Yo w B (.slice a len cap) es) (hf:∀ e ∈ es,e.fits):XF w a len cap es:=by
 obtain ⟨cs,h1,h2⟩:=h
 rcases h1.2 with ⟨hv,h0⟩ | ⟨g,cap',cur,hv,_,hh,hn,hcm,_⟩
 ·injection hv with e1 e2 e3
  subst e1 e2 e3
  obtain rfl:es=[]:=List.eq_nil_of_length_eq_zero h0
  exact ⟨rfl,Nat.le_refl _,by unfold maxLen;omega,.inl rfl⟩
 injection hv with e1 e2 e3
 subst e1 e2 e3
 have hl:=h1.1
 refine ⟨rfl,hn,hcm,.inr ⟨g,0,rfl,(h1.lt g rfl).2,fun t ht=>?_⟩⟩
 have hc:=fun j (hj:j<es.length*3)=>h1.cellAt j hj
 obtain ⟨k1,k2⟩:=h2.1 t ht
 obtain ⟨s,e1,e2⟩:=k2.slices
 have hg:∀ j,j<cs.length→cs[j]?=some (cs.getD j undef):=fun j hj=>by simp [List.getD,List.getElem?_eq_getElem hj]
 refine ⟨s,?_,?_,?_,?_⟩
 ·rw [Nat.zero_add,hc _ (by omega)];exact k1
 ·rw [Nat.zero_add,hc _ (by omega),hg _ (by omega),e1]
 ·rw [Nat.zero_add,hc _ (by omega),hg _ (by omega),e2]
 rw [e1,e2] at k2
 exact k2.mem (hf _ (by simp [List.getD,List.getElem?_eq_getElem ht]))
theorem XF.fits {w:World} {a:Option Addr} {len cap:Nat} {es:List E3} (h:XF w a len cap es):∀ e ∈ es,e.fits:=by
 intro e he
 obtain ⟨t,ht,rfl⟩:=List.getElem_of_mem he
 obtain ⟨h1,_,_,hc⟩:=h
 rcases hc with h0 | ⟨b,off,_,_,hc⟩
 ·omega
 obtain ⟨s,_,_,_,hm⟩:=hc t (by omega)
 have e2:es.getD t e3d=es[t]:=by simp [List.getD,List.getElem?_eq_getElem ht]
 rw [e2] at hm
 exact hm.fits

theorem Na (a:Option Addr) (len cap:Nat) (es:List E3) (w:World) (h:XF w a len cap es) (hn:len≤1048576) (hr:∀ t,t<len→(es.getD t e3d).2.1.length≤1048576∧(es.getD t e3d).2.2.length≤1048576) :
  Calls Tryz.prog 49 #[.slice a len cap] w fun e w'=>e=.returned (.slice (some ⟨w.heap.size,0,none⟩) len len) ∧
   Yo w' w.heap.size (.slice (some ⟨w.heap.size,0,none⟩) len len) es∧Below w.heap.size w w':=by
 obtain ⟨i0,hi,hz0,hz1,hz2⟩:=info_parts Vy
 obtain ⟨hl,hlc,hcm,hcase⟩:=h
 unfold maxLen at hcm
 go_enter Tryz.func49,Tryz.ntmps49
 go_wp2_with (at_make;refine wpList_make_full _ rfl _ _ 45 rfl w.heap.size 109 i0 (.agg #[.string ⟨#[]⟩,.slice none 0 0,.slice none 0 0]) 3 Tryz.underlying45 hi hz0 hz1 _ _ _ _ len rfl rfl (by omega) (by omega) ?b2 ?b3 (Nat.le_refl _) ?_)
 case b2=>rw [hz2];omega
 case b3=>unfold maxLen;omega
 intro w0 hown0 hgrow0
 have hb0:Below w.heap.size w w0:=(Below.refl _ _).grown hgrow0 (Nat.le_refl _) (fun k h=>by cases h)
 obtain ⟨cs0,hcs0⟩:∃ cs0,cs0=(madeCells #[Value.string ⟨#[]⟩,.slice none 0 0,.slice none 0 0] (len*3)).toList:=⟨_,rfl⟩
 rw [← hcs0] at hown0
 clear hgrow0 hcs0
 go_wp2
 go_loopw [4] (fun si wr=>∃ (k:Nat) (cs:List Value),k≤len∧si=.int .i64 k∧YA wr w.heap.size k cs es∧wr.ownsRow w.heap.size 109 3 (.slice (some ⟨w.heap.size,0,none⟩) len len) len cs∧Below w.heap.size w wr) (fun si _=>len - (intOf si).toNat)
 case atStart=>exact ⟨0,cs0,by omega,rfl,⟨fun t ht=>by omega,fun t _ ht=>by omega⟩,hown0,hb0⟩
 case round =>
  obtain ⟨k,cs,hk,rfl,hR,ho,hbel⟩:=hrel
  by_cases hlt:k<len
  ·rcases hcase with h0 | ⟨b,off,rfl,hblt,hcell⟩
   ·omega
   have hlt2:(k:Int)<(len:Int):=by omega
   obtain ⟨s,c0,c1,c2,hm⟩:=hcell k hlt
   obtain ⟨r1,r2⟩:=hr k hlt
   replace c0:=Zy hbel c0
   replace c1:=Zy hbel c1
   replace c2:=Zy hbel c2
   have kE:=Mu (es.getD k e3d) s wr (hm.below hbel) r1 r2
   have hput:=fun w' vb vf hb hk9 hn hPn=>YA.put (w':=w') (P:=w.heap.size) (vb:=vb) (vf:=vf) hR hb hk9 hn hbel.size ((ho.lt w.heap.size rfl).2) hPn
   have hPn:∀ t,t<k→(cs.getD (t*3+1) undef).ownBlock≠some w.heap.size∧(cs.getD (t*3+2) undef).ownBlock≠some w.heap.size:=fun t ht=>by
    obtain ⟨_,q1,q2⟩:=hR.1 t ht
    constructor
    ·rcases Z0 ho q1 (by decide) with h | h
     ·simp [Value.ownBlock] at h
     exact fun e=>h (by rw [e];rfl)
    rcases Z0 ho q2 (by decide) with h | h
    ·simp [Value.ownBlock] at h
    exact fun e=>h (by rw [e];rfl)
   have hcl:=ho.1
   clear hcell hm hR
   generalize (es.getD k e3d)=x at *
   obtain ⟨xk,xb,xz⟩:=x
   obtain ⟨⟨a1,n1,d1⟩,⟨a2,n2,d2⟩⟩:=s
   unfold ZU at kE
   simp only at c0 c1 c2 kE r1 r2 hput
   have hk0:(0:Int)≤(k:Int):=by omega
   go_wp2_with fail
   refine kE.mono ?_
   rintro e w1 ⟨⟨⟨⟨b1,m1,e1⟩,⟨b2,m2,e2⟩⟩,rfl,hOE⟩,hb1⟩
   simp only at hOE ⊢
   have R2:=hput w1 _ _ hb1 (by omega) hOE hPn
   clear hput hPn hOE kE c0 c1 c2
   have ho1:=Zz ho hb1
   have hbel1:Below w.heap.size w w1:=Zb hbel hb1
   clear ho hbel hb1
   have hlen:=ho1.1
   have f0:=ho1.frozenAt (k*3)
   have f1:=ho1.frozenAt (k*3+1)
   have f2:=ho1.frozenAt (k*3+2)
   obtain ⟨u0,hu0⟩:∃ u,w1.cell? ⟨w.heap.size,k*3,none⟩=some u:=⟨_,by rw [ho1.cellAt _ (by omega)];exact List.getElem?_eq_getElem (by omega)⟩
   obtain ⟨u1,hu1⟩:∃ u,w1.cell? ⟨w.heap.size,k*3+1,none⟩=some u:=⟨_,by rw [ho1.cellAt _ (by omega)];exact List.getElem?_eq_getElem (by omega)⟩
   obtain ⟨u2,hu2⟩:∃ u,w1.cell? ⟨w.heap.size,k*3+2,none⟩=some u:=⟨_,by rw [ho1.cellAt _ (by omega)];exact List.getElem?_eq_getElem (by omega)⟩
   have R:=(((ho1.stored (k*3) (.string xk)).1.stored (k*3+1) (.slice b1 m1 e1)).1.stored (k*3+2) (.slice b2 m2 e2)).1
   have hb3:Below w.heap.size w (((w1.setCell ⟨w.heap.size,k*3,none⟩ (.string xk)).setCell ⟨w.heap.size,k*3+1,none⟩ (.slice b1 m1 e1)).setCell ⟨w.heap.size,k*3+2,none⟩ (.slice b2 m2 e2)):=
    ((hbel1.setCell (Nat.le_refl _) _).setCell (Nat.le_refl _) _).setCell (Nat.le_refl _) _
   clear ho1 hbel1
   generalize ((cs.set (k*3) (.string xk)).set (k*3+1) (.slice b1 m1 e1)).set (k*3+2) (.slice b2 m2 e2)=cs' at R R2
   go_wp2
   go_roundw
   case rel=>exact ⟨k+1,cs',by omega,by go_num,R2,R,hb3⟩
   case measure=>simp [intOf];omega
  obtain rfl:k=len:=by omega
  clear hcase
  go_wp2
  go_ret
  exact ⟨rfl,⟨cs,by rw [hl];exact ho,by rw [hl];exact hR⟩,hbel⟩

theorem Y0.low {w:World} {B:Nat} {vb vf:Value} {e:E3} (h:Y0 w B vb vf e) {p:Addr} (hp:p.block<B) (u:Value):Y0 (w.setCell p u) B vb vf e:=⟨ownsRow_setCell_below h.1 hp u,ownsRow_setCell_below h.2 hp u⟩
theorem Yo.low {w:World} {B:Nat} {v:Value} {es:List E3} (h:Yo w B v es) {p:Addr} (hp:p.block<B) (u:Value):Yo (w.setCell p u) B v es:=by
 obtain ⟨cs,h1,h2,h3⟩:=h
 exact ⟨cs,ownsRow_setCell_below h1 hp u,fun t ht=>⟨(h2 t ht).1,(h2 t ht).2.low hp u⟩,h3⟩
theorem Ln (a:Option Addr) (len cap:Nat) (es:List E3) (w:World) (h:XF w a len cap es) (hn:len≤1048576) (hr:∀ t,t<len→(es.getD t e3d).2.1.length≤1048576∧(es.getD t e3d).2.2.length≤1048576) :
  Calls Tryz.prog 13 #[.agg #[.slice a len cap]] w fun e w'=>e=.returned (.agg #[.slice (some ⟨w.heap.size+3,0,none⟩) len len]) ∧
   Yo w' (w.heap.size+3) (.slice (some ⟨w.heap.size+3,0,none⟩) len len) es∧Below w.heap.size w w':=by
 have bw:Below w.heap.size w (((w.alloc (.cells #[.slice a len cap] 40)).alloc (.cells #[.slice none 0 0] 47)).alloc (.cells #[.slice none 0 0] 47)):=by go_grown
 have pR:Blk (((w.alloc (.cells #[.slice a len cap] 40)).alloc (.cells #[.slice none 0 0] 47)).alloc (.cells #[.slice none 0 0] 47)) (w.heap.size+1) 47 [.slice none 0 0]:=Zf _ (Zh _ _ _ (by simp))
 have pO:Blk (((w.alloc (.cells #[.slice a len cap] 40)).alloc (.cells #[.slice none 0 0] 47)).alloc (.cells #[.slice none 0 0] 47)) (w.heap.size+1+1) 47 [.slice none 0 0]:=Zh _ _ _ (by simp)
 have hsz:(((w.alloc (.cells #[.slice a len cap] 40)).alloc (.cells #[.slice none 0 0] 47)).alloc (.cells #[.slice none 0 0] 47)).heap.size=w.heap.size+3:=by simp
 have kE:=fun W (hb:Below w.heap.size w W)=>Na a len cap es W (h.below hb) hn hr
 go_enter Tryz.func13,Tryz.ntmps13
 go_wp2_with fail
 refine (kE _ bw).mono ?_
 generalize (((w.alloc (.cells #[.slice a len cap] 40)).alloc (.cells #[.slice none 0 0] 47)).alloc (.cells #[.slice none 0 0] 47))=U at *
 rintro e w1 ⟨rfl,hM,hb⟩
 rw [hsz] at hM ⊢
 replace bw:=Zm bw hb
 replace pR:=pR.below hb
 replace pO:=pO.below hb
 clear hb kE hsz
 have u0:=pO.cell 0
 have f0:=pO.frozen 0
 simp only [List.getElem?_cons_zero] at u0
 replace hM:=hM.low (p:=⟨w.heap.size+1+1,0,none⟩) (show w.heap.size+1+1<w.heap.size+3 by omega) (.slice (some ⟨w.heap.size+3,0,none⟩) len len)
 replace bw:=bw.setCell (p:=⟨w.heap.size+1+1,0,none⟩) (show w.heap.size≤w.heap.size+1+1 by omega) (.slice (some ⟨w.heap.size+3,0,none⟩) len len)
 replace pR:=pR.off ⟨w.heap.size+1+1,0,none⟩ (.slice (some ⟨w.heap.size+3,0,none⟩) len len) (by simp)
 replace pO:=pO.set 0 (.slice (some ⟨w.heap.size+3,0,none⟩) len len)
 simp only [List.set_cons_zero] at pO
 have o0:=pO.cell 0
 have r0:=pR.cell 0
 have fr0:=pR.frozen 0
 simp only [List.getElem?_cons_zero] at o0 r0
 have pZ:=pR.set 0 (.slice (some ⟨w.heap.size+3,0,none⟩) len len)
 simp only [List.set_cons_zero] at pZ
 have z0:=pZ.cell 0
 simp only [List.getElem?_cons_zero] at z0
 have bz:=bw.setCell (p:=⟨w.heap.size+1,0,none⟩) (show w.heap.size≤w.heap.size+1 by omega) (.slice (some ⟨w.heap.size+3,0,none⟩) len len)
 replace hM:=hM.low (p:=⟨w.heap.size+1,0,none⟩) (show w.heap.size+1<w.heap.size+3 by omega) (.slice (some ⟨w.heap.size+3,0,none⟩) len len)
 clear pO pR pZ bw
 go_wp2
 refine bodyPost_ret (by simp [results,Tryz.results13,go_sem,z0];try rfl) rfl ?_
 exact ⟨rfl,hM,bz⟩


theorem PB (e:E3) (s s':Sl2) (w:World) (h:YL w s e) (h':YL w s' e) :
  Calls Tryz.prog 114 #[ZU e.1 s,ZU e.1 s'] w fun x w'=>x=.returned (.bool true)∧Below w.heap.size w w':=by
 obtain ⟨_,hB,hF,_⟩:=h
 obtain ⟨_,hB',hF',_⟩:=h'
 have l1:=hB.1
 have l2:=hF.1
 have l1':=hB'.1
 have l2':=hF'.1
 obtain ⟨k,bs,zs⟩:=e
 obtain ⟨⟨a1,n1,c1⟩,⟨a2,n2,c2⟩⟩:=s
 obtain ⟨⟨b1,m1,d1⟩,⟨b2,m2,d2⟩⟩:=s'
 unfold ZU
 simp only at *
 obtain rfl:n1=m1:=by omega
 obtain rfl:n2=m2:=by omega
 have kB:=fun W (hb:Below w.heap.size w W)=>Sg a1 b1 n1 c1 d1 bs W (hB.below hb) (hB'.below hb)
 have kF:=fun W (hb:Below w.heap.size w W)=>eq8 a2 b2 n2 c2 d2 zs W (hF.below hb) (hF'.below hb)
 clear hB hF hB' hF' l1 l2 l1' l2'
 have hkk:(k.toList == k.toList)=true:=by simp
 have bw:Below w.heap.size w ((w.alloc (.cells #[.string k,.slice a1 n1 c1,.slice a2 n2 c2] 109)).alloc (.cells #[.string k,.slice b1 n1 d1,.slice b2 n2 d2] 109)):=by go_grown
 have pA:Blk ((w.alloc (.cells #[.string k,.slice a1 n1 c1,.slice a2 n2 c2] 109)).alloc (.cells #[.string k,.slice b1 n1 d1,.slice b2 n2 d2] 109)) w.heap.size 109 [.string k,.slice a1 n1 c1,.slice a2 n2 c2]:=Zf _ (Zh _ _ _ rfl)
 have pB:Blk ((w.alloc (.cells #[.string k,.slice a1 n1 c1,.slice a2 n2 c2] 109)).alloc (.cells #[.string k,.slice b1 n1 d1,.slice b2 n2 d2] 109)) (w.heap.size+1) 109 [.string k,.slice b1 n1 d1,.slice b2 n2 d2]:=Zh _ _ _ (by simp)
 go_enter Tryz.func114,Tryz.ntmps114
 go_wp2_with fail
 refine (kB _ bw).mono ?_
 rintro x w1 ⟨rfl,hb⟩
 replace bw:=Zm bw hb
 replace pA:=pA.below hb
 replace pB:=pB.below hb
 clear hb kB
 have y2:=pA.cell 2
 have z2:=pB.cell 2
 simp only [List.getElem?_cons_zero,List.getElem?_cons_succ] at y2 z2
 go_wp2_with fail
 refine (kF _ bw).mono ?_
 rintro x w2 ⟨rfl,hb⟩
 replace bw:=Zm bw hb
 clear hb kF
 go_wp2
 go_ret
 exact ⟨rfl,bw⟩

theorem Qn (a a':Option Addr) (len cap cap':Nat) (es:List E3) (w:World) (h:XF w a len cap es) (h':XF w a' len cap' es) :
  Calls Tryz.prog 57 #[.slice a len cap,.slice a' len cap'] w fun e w'=>e=.returned (.bool true)∧Below w.heap.size w w':=by
 obtain ⟨hl,hlc,hcm,hcase⟩:=h
 obtain ⟨_,hlc',hcm',hcase'⟩:=h'
 unfold maxLen at hcm hcm'
 have hne:((len:Int) != (len:Int))=false:=by simp
 by_cases h0:len=0
 ·subst h0
  go_enter Tryz.func57,Tryz.ntmps57
  go_wp2
  refine wp_loop_rounds 1 ?_
  rw [rounds_succ]
  go_wp2
  go_ret
  exact ⟨rfl,Below.refl _ _⟩
 rcases hcase with h0' | ⟨b,off,rfl,hblt,hcell⟩
 ·exact absurd h0' h0
 rcases hcase' with h0' | ⟨b',off',rfl,hblt',hcell'⟩
 ·exact absurd h0' h0
 go_enter Tryz.func57,Tryz.ntmps57
 go_wp2
 go_loopw [5] (fun si wr=>∃ k:Nat,k≤len∧si=.int .i64 k∧Below w.heap.size w wr) (fun si _=>len - (intOf si).toNat)
 case atStart=>exact ⟨0,by omega,rfl,Below.refl _ _⟩
 case round =>
  obtain ⟨k,hk,rfl,bw⟩:=hrel
  by_cases hlt:k<len
  ·obtain ⟨s,c0,c1,c2,hm⟩:=hcell k hlt
   obtain ⟨s',d0,d1,d2,hm'⟩:=hcell' k hlt
   have kE:=fun W (hb:Below w.heap.size w W)=>PB (es.getD k e3d) s s' W (hm.below hb) (hm'.below hb)
   replace c0:=Zy bw c0
   replace c1:=Zy bw c1
   replace c2:=Zy bw c2
   replace d0:=Zy bw d0
   replace d1:=Zy bw d1
   replace d2:=Zy bw d2
   clear hcell hcell' hm hm'
   generalize es.getD k e3d=x at *
   obtain ⟨xk,xb,xz⟩:=x
   obtain ⟨⟨p1,pn1,pc1⟩,⟨p2,pn2,pc2⟩⟩:=s
   obtain ⟨⟨q1,qn1,qc1⟩,⟨q2,qn2,qc2⟩⟩:=s'
   unfold ZU at kE
   simp only at c0 c1 c2 d0 d1 d2 kE
   have hlt2:(k:Int)<(len:Int):=by omega
   have hk0:(0:Int)≤(k:Int):=by omega
   have bd:Below w.heap.size w wr.drew:=Zm bw (by go_grown)
   go_wp2_with fail
   refine wp_region_held_drew (S:=(fun w'=>w'.cell? ⟨b,off+k*3,none⟩=some (.string xk)∧w'.cell? ⟨b,off+k*3+1,none⟩=some (.slice p1 pn1 pc1)∧w'.cell? ⟨b,off+k*3+2,none⟩=some (.slice p2 pn2 pc2)∧w'.cell? ⟨b',off'+k*3,none⟩=some (.string xk)∧w'.cell? ⟨b',off'+k*3+1,none⟩=some (.slice q1 qn1 qc1)∧w'.cell? ⟨b',off'+k*3+2,none⟩=some (.slice q2 qn2 qc2))) (by kernel_rfl) ⟨c0,c1,c2,d0,d1,d2⟩ (fun hS0=>?_)
   refine tkm 0 17 (.slice (some ⟨b,off,none⟩) len cap) ?_
   refine tkm 1 18 (.int .i64 k) ?_
   refine tkm 2 19 (.pointer (some ⟨b,off+k*3,none⟩)) ?_
   refine tkm 3 20 (.agg #[.string xk,.slice p1 pn1 pc1,.slice p2 pn2 pc2]) ?_
   refine tkm 4 21 (.slice (some ⟨b',off',none⟩) len cap') ?_
   refine tkm 5 22 (.int .i64 k) ?_
   refine tkm 6 23 (.pointer (some ⟨b',off'+k*3,none⟩)) ?_
   refine tkm 7 24 (.agg #[.string xk,.slice q1 qn1 qc1,.slice q2 qn2 qc2]) ?_
   refine tkr 8 25 (fun K hK=>?_)
   go_simp
   refine (kE _ bd).mono ?_
   rintro e w1 ⟨rfl,hb⟩
   go_wp2_with fail
   refine hK.out _ _ ?_ (fun hS1=>?_)
   ·exact ⟨Za hb _ _ hS0.1,Za hb _ _ hS0.2.1,Za hb _ _ hS0.2.2.1,Za hb _ _ hS0.2.2.2.1,Za hb _ _ hS0.2.2.2.2.1,Za hb _ _ hS0.2.2.2.2.2⟩
   clear hK
   refine tkm 9 26 (.bool false) ?_
   refine wpAnyH_done (by kernel_rfl) ?_ _
   replace bw:=Zm bd hb
   clear hb bd hS0 hS1 c0 c1 c2 d0 d1 d2 kE
   go_wp2
   go_roundw
   case rel=>exact ⟨k+1,by omega,by go_num,bw⟩
   case measure=>simp [intOf];omega
  go_wp2
  go_ret
  exact ⟨rfl,bw⟩

theorem WW (a a':Option Addr) (len cap cap':Nat) (es:List E3) (w:World) (h:XF w a len cap es) (h':XF w a' len cap' es) :
  Calls Tryz.prog 16 #[.agg #[.slice a len cap],.agg #[.slice a' len cap']] w fun e w'=>e=.returned (.bool true)∧Below w.heap.size w w':=by
 have kE:=fun W (hb:Below w.heap.size w W)=>Qn a a' len cap cap' es W (h.below hb) (h'.below hb)
 have bw:Below w.heap.size w ((w.alloc (.cells #[.slice a len cap] 47)).alloc (.cells #[.slice a' len cap'] 47)):=by go_grown
 go_enter Tryz.func16,Tryz.ntmps16
 go_wp2_with fail
 refine (kE _ bw).mono ?_
 rintro x w1 ⟨rfl,hb⟩
 replace bw:=Zm bw hb
 clear hb kE
 go_wp2
 go_ret
 exact ⟨rfl,bw⟩


def WY (k:Nat) (out:ByteArray):ByteArray:=if _h:k=0 then out else WY (k / 10) (strOfNums [48+((k % 10:Nat):Int)]++out)
termination_by k
decreasing_by omega

def Wr (k:Nat):ByteArray:=⟨#[109]⟩++WY k ByteArray.empty

theorem Ss (k:Nat) (w:World) (h0:0<k) (hk:k≤1000000000) :
  Calls Tryz.prog 117 #[.int .i64 k] w fun e w'=>e=.returned (.string (Wr k))∧Below w.heap.size w w':=by
 unfold Wr
 obtain ⟨fin,hfin⟩:∃ fin,fin=WY k ByteArray.empty:=⟨_,rfl⟩
 rw [← hfin]
 have HF:Hid (WY k ByteArray.empty=fin):=hfin.symm
 clear hfin
 go_enter Tryz.func117,Tryz.ntmps117
 go_wp2
 go_loopw [0,3] (fun sk so wr=>∃ (j:Nat) (out:ByteArray),sk=.int .i64 j∧so=.string out∧j+out.size≤k∧Hid (WY j out=fin)∧Below w.heap.size w wr) (fun sk _ _=>(intOf sk).toNat)
 case atStart=>exact ⟨k,ByteArray.empty,rfl,rfl,by simp,HF,Below.refl _ _⟩
 case round =>
  obtain ⟨j,out,rfl,rfl,hz,hE,hbel⟩:=hrel
  by_cases hj:0<j
  ·have hj':((0:Int)<(j:Int)):=by omega
   have hmod:(j:Int).tmod 10=((j % 10:Nat):Int):=by rw [Int.tmod_eq_emod_of_nonneg (by omega)];omega
   have hdiv:(j:Int).tdiv 10=((j / 10:Nat):Int):=by rw [Int.tdiv_eq_ediv_of_nonneg (by omega)];omega
   have hE2:Hid (WY (j / 10) (strOfNums [48+((j % 10:Nat):Int)]++out)=fin):=by
    have:=hE.out
    rw [WY,dif_neg (by omega)] at this
    exact this
   have hsm:((j % 10:Nat):Int)<10:=by omega
   have hsz:(strOfNums [48+((j % 10:Nat):Int)]++out).size=1+out.size:=by rw [ByteArray.size_append];rfl
   have hdl:j / 10<j:=by omega
   have hsum:j / 10+(1+out.size)≤k:=by omega
   have hnn:(0:Int)≤((j % 10:Nat):Int):=by omega
   generalize j % 10=m at hmod hE2 hsm hsz hnn
   generalize j / 10=q at hdiv hE2 hdl hsum
   have hcv:∀ W:World,(convert 22 9 (.slice (some ⟨W.heap.size,0,none⟩) 1 1)).run Tryz.prog (W.alloc (.cells #[.int .u8 (48+(m:Int))] 5))=.ok (.string (strOfNums [48+(m:Int)])) (W.alloc (.cells #[.int .u8 (48+(m:Int))] 5)):=fun W =>
    Uw (World.ownsRow_lit W #[.int .u8 (48+(m:Int))] 1 (Nat.le_refl _) (by unfold maxLen;omega) rfl)
   have hadd:=fun W=>run_string_add_sum (P:=Tryz.prog) W (strOfNums [48+(m:Int)]) out (by have:(strOfNums [48+(m:Int)]).size=1:=rfl;omega)
   clear hE
   go_wp2
   go_roundw
   case rel=>exact ⟨q,strOfNums [48+(m:Int)]++out,rfl,rfl,by rw [hsz];exact hsum,hE2,Zb hbel (by go_grown)⟩
   case measure=>simp [intOf];omega
  obtain rfl:j=0:=by omega
  obtain rfl:out=fin:=by have:=hE.out;rw [WY,dif_pos rfl] at this;exact this
  have hadd:=fun W=>run_string_add_sum (P:=Tryz.prog) W ⟨#[109]⟩ out (by have:(⟨#[109]⟩:ByteArray).size=1:=rfl;omega)
  clear hE HF
  go_wp2
  go_ret
  exact ⟨rfl,hbel⟩


def UL (e:E3):Nat:=1+e.2.1.length*3+e.2.2.length
def mkE (k:Nat) (e:E3):E3:=(Wr k,mkI ((k:Int)+1) e.2.1 e.2.1.length,Vg ((k:Int)+1+e.2.1.length*3) e.2.2 e.2.2.length)
def mkM:Nat→List E3→Nat→List E3
 | _,es,0=>es
 | _,[],_+1=>[]
 | k,e::es,j+1=>mkE k e::mkM (k+UL e) es j
theorem S3:∀ (k:Nat) (es:List E3) (j:Nat),(mkM k es j).length=es.length
 | _,es,0=>by simp [mkM]
 | _,[],_+1=>by simp [mkM]
 | k,_::es,j+1=>by simp [mkM,S3]
def ZA:List E3→Nat→Nat
 | _,0=>0
 | [],_+1=>0
 | e::es,j+1=>UL e+ZA es j
theorem Vu:∀ (es:List E3) (j:Nat),j<es.length→ZA es (j+1)=ZA es j+UL (es.getD j e3d)
 | [],j,h=>by simp at h
 | e::es,0,_=>by simp [ZA]
 | e::es,j+1,h=>by
  have:=Vu es j (by simpa using h)
  simp only [ZA] at this ⊢
  rw [List.getD_cons_succ]
  omega
theorem Rf:∀ (es:List E3) (j:Nat),ZA es j≤ZA es es.length
 | [],0=>by simp [ZA]
 | [],_+1=>by simp [ZA]
 | e::es,0=>by simp [ZA]
 | e::es,j+1=>by
  have:=Rf es j
  simp only [ZA,List.length_cons]
  omega
theorem Re:∀ (es:List E3),ZA es es.length≤3*(es.length+Xo es)
 | []=>by simp [ZA]
 | e::es=>by
  have:=Re es
  simp only [ZA,List.length_cons,Xo,List.map_cons,List.sum_cons,UL,UM] at *
  omega
theorem LM:∀ (k:Nat) (es:List E3) (j:Nat),j<es.length→(mkM k es j).set j (mkE (k+ZA es j) (es.getD j e3d))=mkM k es (j+1)
 | _,[],j,h=>by simp at h
 | k,e::es,0,_=>by simp [mkM,ZA]
 | k,e::es,j+1,h=>by
  have ih:=LM (k+UL e) es j (by simpa using h)
  have e9:k+ZA (e::es) (j+1)=k+UL e+ZA es j:=by simp only [ZA];omega
  rw [e9,List.getD_cons_succ]
  simp only [mkM,List.set_cons_succ,ih]
theorem LL:∀ (k:Nat) (es:List E3) (j i:Nat),j≤i→i<es.length→(mkM k es j).getD i e3d=es.getD i e3d
 | _,es,0,i,_,_=>by simp [mkM]
 | _,[],j+1,i,_,h=>by simp at h
 | k,e::es,j+1,i,h,hl=>by
  cases i with
  | zero=>omega
  | succ i =>
   have ih:=LL (k+UL e) es j i (by omega) (by simpa using hl)
   simpa [mkM] using ih
theorem LK:∀ (k:Nat) (es:List E3) (j i:Nat),i<j→i<es.length→(mkM k es j).getD i e3d=mkE (k+ZA es i) (es.getD i e3d)
 | _,es,0,i,h,_=>by omega
 | _,[],j+1,i,_,h=>by simp at h
 | k,e::es,j+1,0,_,_=>by simp [mkM,ZA]
 | k,e::es,j+1,i+1,h,hl=>by
  have ih:=LK (k+UL e) es j i (by omega) (by simpa using hl)
  have e9:k+ZA (e::es) (i+1)=k+UL e+ZA es i:=by simp only [ZA];omega
  rw [e9]
  simpa [mkM] using ih

def Wd (w:World) (B T:Nat) (v:Value) (es:List E3):Prop:=∃ cs,w.ownsRow B 109 3 v es.length cs∧YA w B es.length cs es∧(∀ x,v.ownBlock=some x→x<T)∧∀ t,t<es.length→(∀ x,(cs.getD (t*3+1) undef).ownBlock=some x→x<T)∧∀ x,(cs.getD (t*3+2) undef).ownBlock=some x→x<T
theorem Wd.own {w:World} {B T:Nat} {v:Value} {es:List E3} (h:Wd w B T v es):Yo w B v es:=by
 obtain ⟨cs,h1,h2,_⟩:=h
 exact ⟨cs,h1,h2⟩
theorem Wd.below {w w':World} {B T:Nat} {v:Value} {es:List E3} (h:Wd w B T v es) (hb:Below w.heap.size w w'):Wd w' B T v es:=by
 obtain ⟨cs,h1,h2,h3,h4⟩:=h
 exact ⟨cs,Zp h1 hb,h2.below hb,h3,h4⟩
theorem Yo.top9 {w:World} {B:Nat} {v:Value} {es:List E3} (h:Yo w B v es):Wd w B w.heap.size v es:=by
 obtain ⟨cs,h1,h2⟩:=h
 exact ⟨cs,h1,h2,fun x hx=>(h1.lt x hx).2,fun t ht=>⟨fun x hx=>((h2.1 t ht).2.1.lt x hx).2,fun x hx=>((h2.1 t ht).2.2.lt x hx).2⟩⟩
theorem Wd.mid {B T B' T':Nat} {w w':World} {v:Value} {es:List E3} (h:Wd w B' T' v es) (hm:Xt B T w w') (hT:T≤B'):Wd w' B' T' v es:=by
 obtain ⟨cs,h1,h2,h3,h4⟩:=h
 exact ⟨cs,hm.owns h1 hT,⟨fun t ht=>⟨(h2.1 t ht).1,hm.owns (h2.1 t ht).2.1 hT,hm.owns (h2.1 t ht).2.2 hT⟩,h2.2⟩,h3,h4⟩
theorem Xx {L:List E3} {j t:Nat} {x:E3} (hj:j<L.length):(L.set j x).getD t e3d=if t=j then x else L.getD t e3d:=by
 by_cases e:t=j
 ·subst e;simp [List.getD,hj]
 rw [if_neg e];simp [List.getD,List.getElem?_set_ne (Ne.symm e)]

theorem YA.key {w:World} {B P j:Nat} {cs:List Value} {L:List E3} {s:ByteArray} (h:YA w B L.length cs L) (hj:j<L.length) (hc:j*3+2<cs.length) (hP:∀ t,t<L.length→(cs.getD (t*3+1) undef).ownBlock≠some P∧(cs.getD (t*3+2) undef).ownBlock≠some P) :
  YA (w.setCell ⟨P,j*3,none⟩ (.string s)) B (L.set j (s,(L.getD j e3d).2)).length (cs.set (j*3) (.string s)) (L.set j (s,(L.getD j e3d).2)):=by
 rw [List.length_set]
 have o:∀ i,i≠j*3→(cs.set (j*3) (.string s))[i]?=cs[i]?:=fun i hi=>List.getElem?_set_ne (Ne.symm hi)
 have o1:∀ t,(cs.set (j*3) (.string s)).getD (t*3+1) undef=cs.getD (t*3+1) undef:=fun t=>by rw [List.getD,List.getD,o _ (by omega)]
 have o2:∀ t,(cs.set (j*3) (.string s)).getD (t*3+2) undef=cs.getD (t*3+2) undef:=fun t=>by rw [List.getD,List.getD,o _ (by omega)]
 refine ⟨fun t ht=>?_,fun t t' ht ht' hne=>by rw [o1,o1,o2,o2];exact h.2 t t' ht ht' hne⟩
 rw [o1,o2,Xx hj]
 obtain ⟨q1,q2⟩:=hP t ht
 have h2:=(h.1 t ht).2.setP (j:=j*3) q1 q2 (.string s)
 by_cases e:t=j
 ·subst e
  rw [if_pos rfl]
  exact ⟨by rw [List.getElem?_set_self (by omega)],h2⟩
 rw [if_neg e,o _ (by omega)]
 exact ⟨(h.1 t ht).1,h2⟩
theorem YA.bugs {w w':World} {B j:Nat} {cs:List Value} {L:List E3} {bs:List I3} (h:YA w B L.length cs L) (hj:j<L.length) (hl:bs.length=(L.getD j e3d).2.1.length)
  (hr:w'.ownsRow B 90 3 (cs.getD (j*3+1) undef) bs.length (Zk bs)) (hg:w.grownBy w' (cs.getD (j*3+1) undef).ownBlock) :
  YA w' B (L.set j ((L.getD j e3d).1,bs,(L.getD j e3d).2.2)).length cs (L.set j ((L.getD j e3d).1,bs,(L.getD j e3d).2.2)):=by
 rw [List.length_set]
 have hb:=(h.1 j hj).2.1
 refine ⟨fun t ht=>?_,h.2⟩
 rw [Xx hj]
 obtain ⟨k1,k2,k3⟩:=h.1 t ht
 have k3':=k3.kept hg (Z0 k3 hb (by decide))
 by_cases e:t=j
 ·subst e
  rw [if_pos rfl]
  exact ⟨k1,hr,k3'⟩
 rw [if_neg e]
 exact ⟨k1,k2.kept hg ((h.2 t j ht hj e).1),k3'⟩
theorem YA.foot {w w':World} {B j:Nat} {cs:List Value} {L:List E3} {zs:List Int} (h:YA w B L.length cs L) (hj:j<L.length)
  (hr:w'.ownsRow B 3 1 (cs.getD (j*3+2) undef) zs.length (zs.map (Value.int .i64))) (hg:w.grownBy w' (cs.getD (j*3+2) undef).ownBlock) :
  YA w' B (L.set j ((L.getD j e3d).1,(L.getD j e3d).2.1,zs)).length cs (L.set j ((L.getD j e3d).1,(L.getD j e3d).2.1,zs)):=by
 rw [List.length_set]
 have hb:=(h.1 j hj).2.2
 refine ⟨fun t ht=>?_,h.2⟩
 rw [Xx hj]
 obtain ⟨k1,k2,k3⟩:=h.1 t ht
 have k2':=k2.kept hg (Z0 k2 hb (by decide))
 by_cases e:t=j
 ·subst e
  rw [if_pos rfl]
  exact ⟨k1,k2',hr⟩
 rw [if_neg e]
 exact ⟨k1,k2',k3.kept hg ((h.2 t j ht hj e).2)⟩


theorem Xt.bel {B T:Nat} {w wr w1:World} (h:Xt B T w wr) (hb:Below wr.heap.size wr w1) (hB:B≤wr.heap.size):Xt B T w w1:=
 ⟨h.1.trans (hb.mono hB),fun j hj hl=>(hb.block j (Nat.lt_of_lt_of_le hl h.1.size)).trans (h.2 j hj hl)⟩
def JK (T n:Nat) (cs:List Value):Prop:=∀ t,t<n→(∀ x,(cs.getD (t*3+1) undef).ownBlock=some x→x<T)∧∀ x,(cs.getD (t*3+2) undef).ownBlock=some x→x<T

theorem RF (B T:Nat) (v:Value) (k:Nat) (es:List E3) (w:World) (hk0:0<k) (hk:k≤100000000) (hcj:∀ j,j≤es.length→ZA es j≤10000000) (hr:∀ t,t<es.length→(es.getD t e3d).2.1.length≤1048576∧(es.getD t e3d).2.2.length≤1048576) (h:Wd w B T v es) :
  Calls Tryz.prog 60 #[v,.int .i64 k] w fun e w'=>e=.returned (.int .i64 (k+ZA es es.length))∧Wd w' B T v (mkM k es es.length)∧Xt B T w w':=by
 obtain ⟨cs0,h1,h2,h3,h4⟩:=h
 rcases h1.2 with ⟨rfl,h0⟩ | ⟨P,cap,cur,rfl,hPB,hh,hlc,hcm,_⟩
 ·obtain rfl:es=[]:=List.eq_nil_of_length_eq_zero h0
  have hfin:Wd w B T (.slice none 0 0) (mkM k [] 0):=⟨cs0,h1,h2,h3,h4⟩
  clear h1 h2 h3 h4
  go_enter Tryz.func60,Tryz.ntmps60
  go_wp2
  refine wp_loop_rounds 1 ?_
  rw [rounds_succ]
  go_wp2
  go_ret
  exact ⟨by simp [ZA],hfin,Xt.refl _ _ _⟩
 clear hh
 unfold maxLen at hcm
 have hPT:P<T:=h3 P rfl
 clear h3
 generalize hn:es.length=n at *
 have HT0:Hid (JK T n cs0):=h4
 clear h4
 have h2':YA w B n cs0 (mkM k es 0):=h2
 clear h2
 go_enter Tryz.func60,Tryz.ntmps60
 go_wp2
 go_loopw [1,5] (fun sk si wr=>∃ (j:Nat) (cs:List Value),j≤n∧si=.int .i64 j∧sk=.int .i64 ((k:Int)+ZA es j)∧wr.ownsRow B 109 3 (.slice (some ⟨P,0,none⟩) n cap) n cs∧YA wr B n cs (mkM k es j)∧Hid (JK T n cs)∧Xt B T w wr) (fun _ si _=>n - (intOf si).toNat)
 case atStart=>exact ⟨0,cs0,by omega,rfl,by simp [ZA],h1,h2',HT0,Xt.refl _ _ _⟩
 case round =>
  clear h1 h2' HT0
  obtain ⟨j,cs,hj,rfl,rfl,ho,hE,HT,hm⟩:=hrel
  by_cases hlt:j<n
  ·have hlt2:(j:Int)<(n:Int):=by omega
   have hj0:(0:Int)≤(j:Int):=by omega
   have hcs:=hcj j hj
   obtain ⟨r1,r2⟩:=hr j hlt
   have hstep:Hid (ZA es (j+1)=ZA es j+UL (es.getD j e3d)):=Vu es j (by omega)
   have hset:=LM k es j (by omega)
   have hold:=LL k es j j (Nat.le_refl _) (by omega)
   have hML:=S3 k es j
   have hcl:=ho.1
   have hsz:B≤wr.heap.size:=by have:=(ho.lt P rfl);omega
   have hPw:P<wr.heap.size:=(ho.lt P rfl).2
   have hPn:∀ t,t<n→(cs.getD (t*3+1) undef).ownBlock≠some P∧(cs.getD (t*3+2) undef).ownBlock≠some P:=fun t ht=>by
    obtain ⟨_,q1,q2⟩:=hE.1 t ht
    constructor
    ·rcases Z0 ho q1 (by decide) with h | h
     ·simp [Value.ownBlock] at h
     exact fun e=>h (by rw [e];rfl)
    rcases Z0 ho q2 (by decide) with h | h
    ·simp [Value.ownBlock] at h
    exact fun e=>h (by rw [e];rfl)
   obtain ⟨tb,tf⟩:=HT.out j hlt
   obtain ⟨vb,hvb⟩:∃ vb,vb=cs.getD (j*3+1) undef:=⟨_,rfl⟩
   obtain ⟨vf,hvf⟩:∃ vf,vf=cs.getD (j*3+2) undef:=⟨_,rfl⟩
   rw [← hvb] at tb
   rw [← hvf] at tf
   have HVB:Hid (vb=cs.getD (j*3+1) undef):=hvb
   have HVF:Hid (vf=cs.getD (j*3+2) undef):=hvf
   clear hvb hvf
   generalize hL:mkM k es j=L at *
   have hLn:L.length=n:=by rw [hML,hn]
   clear hL hML
   rw [← hLn] at hE
   -- the key
   have kM:=fun W=>Ss (k+ZA es j) W (by omega) (by omega)
   have e9:((k+ZA es j:Nat):Int)=(k:Int)+(ZA es j:Int):=by omega
   rw [e9] at kM
   clear e9
   generalize ZA es j=c at *
   go_wp2_with fail
   refine (kM _).mono ?_
   rintro e w1 ⟨rfl,hb⟩
   replace ho:=Zp ho hb
   replace hE:=hE.below hb
   replace hm:=hm.bel hb hsz
   replace hsz:=Nat.le_trans hsz hb.size
   clear hb kM
   have f0:=ho.frozenAt (j*3)
   obtain ⟨u0,hu0⟩:∃ u,w1.cell? ⟨P,j*3,none⟩=some u:=⟨_,by rw [ho.cellAt _ (by omega)];exact List.getElem?_eq_getElem (by omega)⟩
   have ho2:=(ho.stored (j*3) (.string (Wr (k+c)))).1
   have hE2:=hE.key (j:=j) (s:=Wr (k+c)) (P:=P) (by omega) (by omega) (fun t ht=>hPn t (by omega))
   have hm2:Xt B T w (w1.setCell ⟨P,j*3,none⟩ (.string (Wr (k+c)))):=hm.step (u:=.slice (some ⟨P,0,none⟩) n cap) (GY w1 P (j*3) _) hsz (fun x hx=>by cases hx;exact hPB) (fun x hx=>by cases hx;exact hPT)
   have hs2:B≤(w1.setCell ⟨P,j*3,none⟩ (.string (Wr (k+c)))).heap.size:=by simpa using hsz
   have cb:(w1.setCell ⟨P,j*3,none⟩ (.string (Wr (k+c)))).cell? ⟨P,j*3+1,none⟩=some vb:=by
    rw [HVB.out,ho2.cellAt _ (by omega),List.getElem?_set_ne (by omega)]
    simp [List.getD,List.getElem?_eq_getElem (show j*3+1<cs.length by omega)]
   clear ho hE hm hsz
   go_wp2_with fail
   clear f0 hu0
   have g1:(cs.set (j*3) (.string (Wr (k+c)))).getD (j*3+1) undef=vb:=by rw [HVB.out,List.getD,List.getD,List.getElem?_set_ne (by omega)]
   have g2:(cs.set (j*3) (.string (Wr (k+c)))).getD (j*3+2) undef=vf:=by rw [HVF.out,List.getD,List.getD,List.getElem?_set_ne (by omega)]
   have HT2:Hid (JK T n (cs.set (j*3) (.string (Wr (k+c))))):=fun t ht=>by
    obtain ⟨a1,a2⟩:=HT.out t ht
    rw [List.getD,List.getElem?_set_ne (show j*3≠t*3+1 by omega),List.getD,List.getElem?_set_ne (show j*3≠t*3+2 by omega)]
    exact ⟨a1,a2⟩
   have hl2:(cs.set (j*3) (.string (Wr (k+c)))).length=n*3:=by rw [List.length_set];exact hcl
   rw [hold] at hE2
   generalize (w1.setCell ⟨P,j*3,none⟩ (.string (Wr (k+c))))=W2 at *
   generalize cs.set (j*3) (.string (Wr (k+c)))=ds at *
   clear HT
   have G1:Hid (ds.getD (j*3+1) undef=vb):=g1
   have G2:Hid (ds.getD (j*3+2) undef=vf):=g2
   clear g1 g2 HVB HVF
   generalize es.getD j e3d=x at *
   have q:=(hE2.1 j (by rw [List.length_set];omega)).2
   rw [Xx (by omega),if_pos rfl,G1.out,G2.out] at q
   -- the bugs
   have kB:=Te B vb ((k:Int)+c+1) x.2.1 W2 (by omega) (by omega) r1 q.1
   refine kB.mono ?_
   rintro e W3 ⟨rfl,hrow,hg⟩
   have hE3:=hE2.bugs (j:=j) (bs:=mkI ((k:Int)+c+1) x.2.1 x.2.1.length) (by rw [List.length_set];omega) (by rw [Xx (by omega),if_pos rfl,WZ]) (by rw [G1.out,WZ];exact hrow) (by rw [G1.out];exact hg)
   have ho3:=ho2.kept hg (Z0 ho2 q.1 (by decide))
   have hm3:=hm2.step hg hs2 (fun y hy=>(q.1.lt y hy).1) tb
   have hs3:B≤W3.heap.size:=by have:=(ho3.lt P rfl);omega
   have cf:W3.cell? ⟨P,j*3+2,none⟩=some vf:=by
    rw [← G2.out,ho3.cellAt _ (by omega)]
    simp [List.getD,List.getElem?_eq_getElem (show j*3+2<ds.length by omega)]
   rw [Xx (by omega),if_pos rfl,List.set_set] at hE3
   clear hE2 ho2 hm2 hs2 cb hrow hg kB q
   have q:=(hE3.1 j (by rw [List.length_set];omega)).2
   rw [Xx (by omega),if_pos rfl,G1.out,G2.out] at q
   -- the foot
   have kF:=Hb B vf ((k:Int)+c+1+x.2.1.length*3) x.2.2 W3 (by omega) (by omega) r2 q.2
   go_wp2_with fail
   refine kF.mono ?_
   rintro e W4 ⟨rfl,hrow,hg⟩
   have hE4:=hE3.foot (j:=j) (zs:=Vg ((k:Int)+c+1+x.2.1.length*3) x.2.2 x.2.2.length) (by rw [List.length_set];omega) (by rw [G2.out,Tg];exact hrow) (by rw [G2.out];exact hg)
   have ho4:=ho3.kept hg (Z0 ho3 q.2 (by decide))
   have hm4:=hm3.step hg hs3 (fun y hy=>(q.2.lt y hy).1) tf
   rw [Xx (by omega),if_pos rfl,List.set_set,List.length_set,hLn] at hE4
   have e10:mkE (k+c) x=(Wr (k+c),mkI ((k:Int)+c+1) x.2.1 x.2.1.length,Vg ((k:Int)+c+1+x.2.1.length*3) x.2.2 x.2.2.length):=by
    unfold mkE
    rw [show ((k+c:Nat):Int)=(k:Int)+(c:Int) by omega]
   simp only at hE4
   rw [← e10,hset] at hE4
   have HK:Hid ((k:Int)+c+1+x.2.1.length*3+x.2.2.length=(k:Int)+ZA es (j+1)):=by rw [Hid,hstep.out,UL];omega
   clear hE3 ho3 hm3 hs3 cf hrow hg kF q e10 hset hstep hold tb tf hPn
   go_wp2
   go_roundw
   case rel=>exact ⟨j+1,ds,by omega,by go_num,by rw [← HK.out],ho4,hE4,HT2,hm4⟩
   case measure=>simp [intOf];omega
  obtain rfl:j=n:=by omega
  have hlen:=S3 k es j
  go_wp2
  go_ret
  exact ⟨rfl,⟨cs,by rw [hlen,hn];exact ho,by rw [hlen,hn];exact hE,fun x hx=>by cases hx;exact hPT,by rw [hlen,hn];exact HT.out⟩,hm⟩


theorem VD {w:World} {B e s n g t:Nat} {v:Value} {xs cs:List Value} (h:w.ownsRow B e s v n xs) (hB:Blk w g t cs) (he:e≠t):v.ownBlock≠some g:=by
 rcases h.2 with ⟨rfl,_⟩ | ⟨g',cap,cur,rfl,_,hh,_⟩
 ·simp [Value.ownBlock]
 simp only [Value.ownBlock,ne_eq,Option.some.injEq]
 rintro rfl
 unfold Blk at hB
 rw [hh] at hB
 simp at hB
 exact he hB.2
theorem Tf (B T:Nat) (v:Value) (k:Nat) (es:List E3) (w:World) (hk0:0<k) (hk:k≤100000000) (hcj:∀ j,j≤es.length→ZA es j≤10000000) (hr:∀ t,t<es.length→(es.getD t e3d).2.1.length≤1048576∧(es.getD t e3d).2.2.length≤1048576) (hB:B≤w.heap.size) (h:Wd w B T v es) :
  Calls Tryz.prog 19 #[.agg #[v],.int .i64 k] w fun e w'=>e=.returned (.int .i64 (k+ZA es es.length))∧Wd w' B T v (mkM k es es.length)∧Xt B T w w':=by
 obtain ⟨a,cap,rfl⟩:∃ a cap,v=.slice a es.length cap:=by obtain ⟨cs,h1,_⟩:=h;exact ZH h1
 have kE:=fun W (hb:Below w.heap.size w W)=>RF B T _ k es W hk0 hk hcj hr (h.below hb)
 have bw:Below w.heap.size w (w.alloc (.cells #[.slice a es.length cap] 47)):=by go_grown
 go_enter Tryz.func19,Tryz.ntmps19
 go_wp2_with fail
 refine (kE _ bw).mono ?_
 rintro e w1 ⟨rfl,h1,hm⟩
 have hm2:=hm.after bw hB
 clear hm kE
 go_wp2
 go_ret
 exact ⟨rfl,h1,hm2⟩

theorem Ru (B:Nat) (v:Value) (k:Nat) (es:List E3) (w:World) (hk0:0<k) (hk:k≤100000000) (hcj:∀ j,j≤es.length→ZA es j≤10000000) (hr:∀ t,t<es.length→(es.getD t e3d).2.1.length≤1048576∧(es.getD t e3d).2.2.length≤1048576) (h:Yo w B v (mkM k es es.length)) :
  Calls Tryz.prog 63 #[v,.int .i64 k] w fun e w'=>e=.returned (.int .i64 (k+ZA es es.length))∧Below w.heap.size w w':=by
 obtain ⟨cs,h1,h2⟩:=h
 have hml:=S3 k es es.length
 rw [hml] at h1 h2
 rcases h1.2 with ⟨rfl,h0⟩ | ⟨P,cap,cur,rfl,hPB,hh,hlc,hcm,_⟩
 ·obtain rfl:es=[]:=List.eq_nil_of_length_eq_zero h0
  clear h1 h2
  go_enter Tryz.func63,Tryz.ntmps63
  go_wp2
  refine wp_loop_rounds 1 ?_
  rw [rounds_succ]
  go_wp2
  go_ret
  exact ⟨by simp [ZA],Below.refl _ _⟩
 clear hh
 unfold maxLen at hcm
 generalize hn:es.length=n at *
 have hcl:=h1.1
 go_enter Tryz.func63,Tryz.ntmps63
 go_wp2
 go_loopw [1,5] (fun sk si wr=>∃ (j:Nat),j≤n∧si=.int .i64 j∧sk=.int .i64 ((k:Int)+ZA es j)∧Below w.heap.size w wr) (fun _ si _=>n - (intOf si).toNat)
 case atStart=>exact ⟨0,by omega,rfl,by simp [ZA],Below.refl _ _⟩
 case round =>
  obtain ⟨j,hj,rfl,rfl,bw⟩:=hrel
  by_cases hlt:j<n
  ·have hlt2:(j:Int)<(n:Int):=by omega
   have hj0:(0:Int)≤(j:Int):=by omega
   have hcs:=hcj j hj
   obtain ⟨r1,r2⟩:=hr j hlt
   have HS:Hid (ZA es (j+1)=ZA es j+UL (es.getD j e3d)):=Vu es j (by omega)
   obtain ⟨k1,k2⟩:=h2.1 j hlt
   rw [LK k es n j hlt (by omega)] at k1 k2
   obtain ⟨s,e1,e2⟩:=k2.slices
   have c0:=(h1.cellAt (j*3) (by omega)).trans k1
   have c1:w.cell? ⟨P,j*3+1,none⟩=some (cs.getD (j*3+1) undef):=by rw [h1.cellAt _ (by omega)];simp [List.getD,List.getElem?_eq_getElem (show j*3+1<cs.length by omega)]
   have c2:w.cell? ⟨P,j*3+2,none⟩=some (cs.getD (j*3+2) undef):=by rw [h1.cellAt _ (by omega)];simp [List.getD,List.getElem?_eq_getElem (show j*3+2<cs.length by omega)]
   rw [e1] at c1
   rw [e2] at c2
   rw [e1,e2] at k2
   clear e1 e2 k1
   replace k2:=k2.below bw
   replace c0:=Zy bw c0
   replace c1:=Zy bw c1
   replace c2:=Zy bw c2
   generalize es.getD j e3d=x at *
   have kM:=fun W=>Ss (k+ZA es j) W (by omega) (by omega)
   unfold mkE at k2 c0
   rw [show ((k+ZA es j:Nat):Int)=(k:Int)+(ZA es j:Int) by omega] at kM k2
   obtain ⟨xk,xb,xz⟩:=x
   simp only at *
   generalize ZA es j=c at *
   obtain ⟨q1,q2⟩:=k2
   simp only at q1 q2
   rw [WZ] at q1
   rw [Tg] at q2
   generalize Wr (k+c)=mk at *
   obtain ⟨⟨a1,n1,d1⟩,⟨a2,n2,d2⟩⟩:=s
   simp only at *
   have hkk:(mk.toList == mk.toList)=true:=by simp
   go_wp2_with fail
   refine wp_region_held_drew (S:=(fun w'=>w'.cell? ⟨P,j*3,none⟩=some (.string mk))) (by kernel_rfl) c0 (fun hS0=>?_)
   refine tkm 0 12 (.slice (some ⟨P,0,none⟩) n cap) ?_
   refine tkm 1 13 (.int .i64 j) ?_
   refine tkm 2 14 (.pointer (some ⟨P,j*3,none⟩)) ?_
   refine tkm 3 15 (.pointer (some ⟨P,j*3,none⟩)) ?_
   refine tkm 4 16 (.string mk) ?_
   refine tkm 5 17 (.int .i64 ((k:Int)+c)) ?_
   refine tkr 6 18 (fun K hK=>?_)
   go_simp
   refine (kM _).mono ?_
   rintro e w1 ⟨rfl,hb⟩
   go_wp2_with fail
   refine hK.out _ _ ?_ (fun hS1=>?_)
   ·exact Za hb _ _ hS0
   clear hK
   refine tkm 7 19 (.bool false) ?_
   refine wpAnyH_done (by kernel_rfl) ?_ _
   have hbb:Below wr.heap.size wr w1:=Zm (by go_grown) hb
   replace bw:=Zm bw hbb
   replace c1:=Zy hbb c1
   replace c2:=Zy hbb c2
   have kB:=UT B (.slice a1 n1 d1) ((k:Int)+c+1) xb w1 (by omega) (by omega) r1 (Zp q1 hbb)
   have kF:=JU B (.slice a2 n2 d2) ((k:Int)+c+1+xb.length*3) xz w1 (by omega) (by omega) r2 (Zp q2 hbb)
   clear hb hbb hS0 hS1 c0 q1 q2 kM
   have g1:decide ((k:Int)+c+1+xb.length*3<0)=false:=by simp;omega
   have g2:decide ((k:Int)+c+1+xb.length*3+xz.length<0)=false:=by simp;omega
   have HK:Hid ((k:Int)+c+1+xb.length*3+xz.length=(k:Int)+ZA es (j+1)):=by rw [Hid,HS.out,UL];simp only;omega
   clear HS
   go_wp2_with fail
   refine kB.mono ?_
   rintro e W2 ⟨rfl,rfl⟩
   go_wp2_with fail
   refine kF.mono ?_
   rintro e W2 ⟨rfl,rfl⟩
   clear kB kF c1 c2
   go_wp2
   go_roundw
   case rel=>exact ⟨j+1,by omega,by go_num,by rw [← HK.out],bw⟩
   case measure=>simp [intOf];omega
  obtain rfl:j=n:=by omega
  go_wp2
  go_ret
  exact ⟨rfl,bw⟩

theorem UU (B:Nat) (v:Value) (k:Nat) (es:List E3) (w:World) (hk0:0<k) (hk:k≤100000000) (hcj:∀ j,j≤es.length→ZA es j≤10000000) (hr:∀ t,t<es.length→(es.getD t e3d).2.1.length≤1048576∧(es.getD t e3d).2.2.length≤1048576) (h:Yo w B v (mkM k es es.length)) :
  Calls Tryz.prog 22 #[.agg #[v],.int .i64 k] w fun e w'=>e=.returned (.int .i64 (k+ZA es es.length))∧Below w.heap.size w w':=by
 obtain ⟨a,cap,rfl⟩:∃ a cap,v=.slice a (mkM k es es.length).length cap:=by obtain ⟨cs,h1,_⟩:=h;exact ZH h1
 have kE:=fun W (hb:Below w.heap.size w W)=>Ru B _ k es W hk0 hk hcj hr (h.below hb)
 have bw:Below w.heap.size w (w.alloc (.cells #[.slice a (mkM k es es.length).length cap] 47)):=by go_grown
 have hc:=hcj es.length (Nat.le_refl _)
 have g1:decide ((k:Int)+ZA es es.length<0)=false:=by simp;omega
 generalize (mkM k es es.length).length=nn at *
 go_enter Tryz.func22,Tryz.ntmps22
 go_wp2_with fail
 refine (kE _ bw).mono ?_
 rintro e w1 ⟨rfl,hb⟩
 replace bw:=Zm bw hb
 clear hb kE
 go_wp2
 go_ret
 exact ⟨rfl,bw⟩


theorem Xe {w w':World} {B T e s n:Nat} {v:Value} {xs:List Value} (h:w.ownsRow B e s v n xs) (hT:∀ x,v.ownBlock=some x→x<T) (hb:Below T w w'):w'.ownsRow B e s v n xs:=by
 refine ⟨h.1,?_⟩
 rcases h.2 with h0 | ⟨g,cap,cur,hv,hBg,hg,rest⟩
 ·exact .inl h0
 exact .inr ⟨g,cap,cur,hv,hBg,(hb.block g (hT g (by rw [hv];rfl))).trans hg,rest⟩
theorem Wd.under {w w':World} {B T T':Nat} {v:Value} {es:List E3} (h:Wd w B T v es) (hb:Below T' w w') (hT:T≤T'):Wd w' B T v es:=by
 obtain ⟨cs,h1,h2,h3,h4⟩:=h
 exact ⟨cs,Xe h1 (fun x hx=>Nat.lt_of_lt_of_le (h3 x hx) hT) hb,⟨fun t ht=>⟨(h2.1 t ht).1,Xe (h2.1 t ht).2.1 (fun x hx=>Nat.lt_of_lt_of_le ((h4 t ht).1 x hx) hT) hb,Xe (h2.1 t ht).2.2 (fun x hx=>Nat.lt_of_lt_of_le ((h4 t ht).2 x hx) hT) hb⟩,h2.2⟩,h3,h4⟩
theorem Yo.nil9 (w:World) (B:Nat):Yo w B (.slice none 0 0) []:=⟨[],World.ownsRow_nil _ _ _ _,fun t ht=>by simp at ht,fun t _ ht=>by simp at ht⟩
theorem Yo.lower {w:World} {B B':Nat} {v:Value} {es:List E3} (h:Yo w B v es) (hB:B'≤B):Yo w B' v es:=by
 obtain ⟨cs,h1,h2,h3⟩:=h
 exact ⟨cs,ZT h1 hB,fun t ht=>⟨(h2 t ht).1,(h2 t ht).2.lower hB⟩,h3⟩
theorem Yo.slice9 {w:World} {B:Nat} {v:Value} {es:List E3} (h:Yo w B v es):∃ a c,v=.slice a es.length c:=by
 obtain ⟨cs,h1,_⟩:=h
 exact ZH h1


theorem Tc:∀ (rows:List (List I3)) (left:Int),0≤Z4 left rows→0≤left→∀ r ∈ rows,(r.length:Int)≤left
 | [],_,_,_,r,hr=>by cases hr
 | x::xs,left,h,h0,r,hr=>by
  unfold Z4 at h
  split at h
  ·omega
  rcases List.mem_cons.1 hr with rfl | hr
  ·omega
  have:=Tc xs (left - x.length) h (by omega) r hr
  omega

theorem Rs {rows:List (List I3)} {n:Nat} (h:∀ r ∈ rows,r.length≤n) (t:Nat):(rows.getD t []).length≤n:=by
 by_cases ht:t<rows.length
 ·have:rows.getD t []=rows[t]:=by simp [List.getD,ht]
  rw [this]
  exact h _ (List.getElem_mem ht)
 have:rows.getD t []=[]:=by simp [List.getD,List.getElem?_eq_none (Nat.le_of_not_lt ht)]
 rw [this]
 exact Nat.zero_le _

theorem Mf {rows:List (List I3)} {left:Int} (hm:left≤1048576) (h:0≤YU left rows) (h0:0≤left):rows.length≤1048576∧∀ t,(rows.getD t []).length≤1048576:=by
 unfold YU at h
 split at h
 ·omega
 refine ⟨by omega,fun t=>Rs (fun r hr=>?_) t⟩
 have:=Tc rows _ h (by omega) r hr
 omega

end Go.Proofs.YtmhlokahmblboaaGreatDoor
