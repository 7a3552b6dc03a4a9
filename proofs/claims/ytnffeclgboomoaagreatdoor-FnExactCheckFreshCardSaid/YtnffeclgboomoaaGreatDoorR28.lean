/-
  Joined: Ent2, Ent3, Ent4, MarkT, Ent5, Ent6, Ent7, Ent8, SizeB, Ent9.
-/
import Derived.Test.YtnffeclgboomoaaGreatDoorR27

namespace Go.Proofs.YtnffeclgboomoaaGreatDoor
set_option maxRecDepth 100000
set_option maxHeartbeats 16000000
open Go.RowKit
set_option linter.unusedVariables false
set_option linter.unusedSimpArgs false

def Xp (w:World) (B:Nat) (vb vf:Value) (e:E3):Prop:=w.ownsRow B 127 3 vb e.2.1.length (Zl e.2.1)∧w.ownsRow B 3 1 vf e.2.2.length (e.2.2.map (Value.int .i64))
theorem Xp.below {w w':World} {B:Nat} {vb vf:Value} {e:E3} (h:Xp w B vb vf e) (hb:Below w.heap.size w w'):Xp w' B vb vf e:=⟨Zs h.1 hb,Zs h.2 hb⟩
theorem Xp.lower {w:World} {B B':Nat} {vb vf:Value} {e:E3} (h:Xp w B vb vf e) (hB:B'≤B):Xp w B' vb vf e:=⟨Z4 h.1 hB,Z4 h.2 hB⟩
theorem Xp.slices {w:World} {B:Nat} {vb vf:Value} {e:E3} (h:Xp w B vb vf e):∃ s:Sl2,vb=.slice s.1.1 s.1.2.1 s.1.2.2∧vf=.slice s.2.1 s.2.2.1 s.2.2.2:=by
 obtain ⟨a,c,e1⟩:=ZH h.1
 obtain ⟨a',c',e2⟩:=ZH h.2
 exact ⟨((a,_,c),(a',_,c')),e1,e2⟩
theorem Zm.of_ownB9 {w:World} {B:Nat} {v:Value} {xs:List I3} (h:w.ownsRow B 127 3 v xs.length (Zl xs)) (hf:∀ x ∈ xs,I3.fits x):∃ a cap,v=.slice a xs.length cap∧Zm w a xs.length cap xs:=by
 rcases h.2 with ⟨hv,h0⟩ | ⟨g,cap,cur,hv,_⟩
 ·obtain rfl:xs=[]:=List.eq_nil_of_length_eq_zero h0
  exact ⟨none,0,hv,rfl,Nat.le_refl _,by unfold maxLen;omega,by simp,.inl rfl⟩
 subst hv
 exact ⟨_,_,rfl,Zm.of_owns h rfl hf rfl⟩
def E3.fits (e:E3):Prop:=e.1.size≤maxLen∧(∀ x ∈ e.2.1,I3.fits x)∧∀ z ∈ e.2.2,(Lit.int .i64 z).wf=true
theorem Nw {w:World} {B e s n:Nat} {a:Option Addr} {m c:Nat} {xs:List Value} (h:w.ownsRow B e s (.slice a m c) n xs):a=none→c=0:=by
 rcases h.2 with ⟨hv,_⟩ | ⟨g,cap,cur,hv,_⟩
 ·injection hv with e1 e2 e3
  exact fun _=>e3
 injection hv with e1 e2 e3
 intro ha
 rw [ha] at e1
 cases e1
theorem Xp.mem {w:World} {B:Nat} {s:Sl2} {e:E3} (h:Xp w B (.slice s.1.1 s.1.2.1 s.1.2.2) (.slice s.2.1 s.2.2.1 s.2.2.2) e) (hf:e.fits):YI w s e:=by
 obtain ⟨⟨a1,n1,c1⟩,⟨a2,n2,c2⟩⟩:=s
 obtain ⟨h1,h2⟩:=h
 simp only at h1 h2
 refine ⟨⟨hf.1,Nw h1,Nw h2⟩,?_,?_,hf.2.2⟩
 ·obtain ⟨a,cap,hv,hI⟩:=Zm.of_ownB9 h1 hf.2.1
  injection hv with e1 e2 e3
  subst e1 e2 e3
  exact hI
 obtain ⟨a,cap,hv⟩:=ZH h2
 injection hv with e1 e2 e3
 subst e1 e2 e3
 exact Qy h2


theorem Ux:(Tryz.prog.info? 45).map (fun i=>(i.zero,i.size,i.bytes))=some (some (.agg #[.string ⟨#[]⟩,.slice none 0 0,.slice none 0 0]),3,64):=by kernel_rfl

def J1 (u v:Value):Prop:=u.ownBlock=none∨u.ownBlock≠v.ownBlock
def Y6 (w:World) (B k:Nat) (cs:List Value) (es:List E3):Prop:=
 (∀ t,t<k→cs[t*3]?=some (.string (es.getD t e3d).1)∧Xp w B (cs.getD (t*3+1) undef) (cs.getD (t*3+2) undef) (es.getD t e3d)) ∧
 ∀ t t',t<k→t'<k→t≠t'→J1 (cs.getD (t*3+1) undef) (cs.getD (t'*3+1) undef)∧J1 (cs.getD (t*3+2) undef) (cs.getD (t'*3+2) undef)
theorem Y6.below {w w':World} {B k:Nat} {cs:List Value} {es:List E3} (h:Y6 w B k cs es) (hb:Below w.heap.size w w'):Y6 w' B k cs es:=⟨fun t ht=>⟨(h.1 t ht).1,(h.1 t ht).2.below hb⟩,h.2⟩
theorem Xp.setP {w:World} {B P j:Nat} {vb vf:Value} {e:E3} (h:Xp w B vb vf e) (h1:vb.ownBlock≠some P) (h2:vf.ownBlock≠some P) (u:Value):Xp (w.setCell ⟨P,j,none⟩ u) B vb vf e:=
 ⟨ownsRow_setCell_other h.1 h1 u,ownsRow_setCell_other h.2 h2 u⟩
theorem UF {w:World} {B B' e s n:Nat} {u v:Value} {xs:List Value} (hu:w.ownsRow B e s u n xs) (hv:∀ x,v.ownBlock=some x→w.heap.size≤x):J1 u v∧J1 v u:=by
 constructor
 ·rcases hb:u.ownBlock with _ | x
  ·exact .inl hb
  refine .inr ?_
  rw [hb]
  intro h
  have:=(hu.lt x hb).2
  have:=hv x h.symm
  omega
 rcases hb:v.ownBlock with _ | x
 ·exact .inl hb
 refine .inr ?_
 rw [hb]
 intro h
 have:=(hu.lt x h.symm).2
 have:=hv x hb
 omega
def YW (w:World) (B:Nat) (v:Value) (es:List E3):Prop:=∃ cs,w.ownsRow B 45 3 v es.length cs∧Y6 w B es.length cs es
theorem YW.below {w w':World} {B:Nat} {v:Value} {es:List E3} (h:YW w B v es) (hb:Below w.heap.size w w'):YW w' B v es:=by
 obtain ⟨cs,h1,h2⟩:=h
 exact ⟨cs,Zs h1 hb,h2.below hb⟩
theorem YW.ents {w:World} {B:Nat} {a:Option Addr} {len cap:Nat} {es:List E3} (h:YW w B (.slice a len cap) es) (hf:∀ e ∈ es,e.fits):YV w a len cap es:=by
 obtain ⟨cs,h1,h2⟩:=h
 rcases h1.2 with ⟨hv,h0⟩ | ⟨g,cap',cur,hv,_,hh,hn,hcm,_⟩
 ·injection hv with e1 e2 e3
  subst e1 e2 e3
  obtain rfl:es=[]:=List.eq_nil_of_length_eq_zero h0
  exact ⟨rfl,Nat.le_refl _,by unfold maxLen;omega,.inl rfl⟩
 injection hv with e1 e2 e3
 subst e1 e2 e3
 have hl:=h1.1
 refine ⟨rfl,hn,hcm,.inr ⟨g,0,rfl,(h1.lt g rfl).2,fun t ht=>?_⟩⟩
 have hc:=fun j (hj:j<es.length*3)=>h1.cellAt j hj
 obtain ⟨k1,k2⟩:=h2.1 t ht
 obtain ⟨s,e1,e2⟩:=k2.slices
 have hg:∀ j,j<cs.length→cs[j]?=some (cs.getD j undef):=fun j hj=>by simp [List.getD,List.getElem?_eq_getElem hj]
 refine ⟨s,?_,?_,?_,?_⟩
 ·rw [Nat.zero_add,hc _ (by omega)];exact k1
 ·rw [Nat.zero_add,hc _ (by omega),hg _ (by omega),e1]
 ·rw [Nat.zero_add,hc _ (by omega),hg _ (by omega),e2]
 rw [e1,e2] at k2
 exact k2.mem (hf _ (by simp [List.getD,List.getElem?_eq_getElem ht]))
theorem Xp.low {w:World} {B:Nat} {vb vf:Value} {e:E3} (h:Xp w B vb vf e) {p:Addr} (hp:p.block<B) (u:Value):Xp (w.setCell p u) B vb vf e:=⟨ownsRow_setCell_below h.1 hp u,ownsRow_setCell_below h.2 hp u⟩
theorem YW.low {w:World} {B:Nat} {v:Value} {es:List E3} (h:YW w B v es) {p:Addr} (hp:p.block<B) (u:Value):YW (w.setCell p u) B v es:=by
 obtain ⟨cs,h1,h2,h3⟩:=h
 exact ⟨cs,ownsRow_setCell_below h1 hp u,fun t ht=>⟨(h2 t ht).1,(h2 t ht).2.low hp u⟩,h3⟩


theorem Pb (e:E3) (s s':Sl2) (w:World) (h:YI w s e) (h':YI w s' e) :
  Calls Tryz.prog 42 #[ZM e.1 s,ZM e.1 s'] w fun x w'=>x=.returned (.bool true)∧Below w.heap.size w w':=by
 obtain ⟨_,hB,hF,_⟩:=h
 obtain ⟨_,hB',hF',_⟩:=h'
 have l1:=hB.1
 have l2:=hF.1
 have l1':=hB'.1
 have l2':=hF'.1
 obtain ⟨k,bs,zs⟩:=e
 obtain ⟨⟨a1,n1,c1⟩,⟨a2,n2,c2⟩⟩:=s
 obtain ⟨⟨b1,m1,d1⟩,⟨b2,m2,d2⟩⟩:=s'
 unfold ZM
 simp only at *
 obtain rfl:n1=m1:=by omega
 obtain rfl:n2=m2:=by omega
 have kB:=fun W (hb:Below w.heap.size w W)=>T8 a1 b1 n1 c1 d1 bs W (hB.below hb) (hB'.below hb)
 have kF:=fun W (hb:Below w.heap.size w W)=>eq8 a2 b2 n2 c2 d2 zs W (hF.below hb) (hF'.below hb)
 clear hB hF hB' hF' l1 l2 l1' l2'
 have hkk:(k.toList == k.toList)=true:=by simp
 have bw:Below w.heap.size w ((w.alloc (.cells #[.string k,.slice a1 n1 c1,.slice a2 n2 c2] 45)).alloc (.cells #[.string k,.slice b1 n1 d1,.slice b2 n2 d2] 45)):=by go_grown
 have pA:Blk ((w.alloc (.cells #[.string k,.slice a1 n1 c1,.slice a2 n2 c2] 45)).alloc (.cells #[.string k,.slice b1 n1 d1,.slice b2 n2 d2] 45)) w.heap.size 45 [.string k,.slice a1 n1 c1,.slice a2 n2 c2]:=Zi _ (Zj _ _ _ rfl)
 have pB:Blk ((w.alloc (.cells #[.string k,.slice a1 n1 c1,.slice a2 n2 c2] 45)).alloc (.cells #[.string k,.slice b1 n1 d1,.slice b2 n2 d2] 45)) (w.heap.size+1) 45 [.string k,.slice b1 n1 d1,.slice b2 n2 d2]:=Zj _ _ _ (by simp)
 go_enter Tryz.func42,Tryz.ntmps42
 go_wp2_with fail
 refine (kB _ bw).mono ?_
 rintro x w1 ⟨rfl,hb⟩
 replace bw:=Zn bw hb
 replace pA:=pA.below hb
 replace pB:=pB.below hb
 clear hb kB
 have y2:=pA.cell 2
 have z2:=pB.cell 2
 simp only [List.getElem?_cons_zero,List.getElem?_cons_succ] at y2 z2
 go_wp2_with fail
 refine (kF _ bw).mono ?_
 rintro x w2 ⟨rfl,hb⟩
 replace bw:=Zn bw hb
 clear hb kF
 go_wp2
 go_ret
 exact ⟨rfl,bw⟩

theorem R1 (a a':Option Addr) (len cap cap':Nat) (es:List E3) (w:World) (h:YV w a len cap es) (h':YV w a' len cap' es) :
  Calls Tryz.prog 79 #[.slice a len cap,.slice a' len cap'] w fun e w'=>e=.returned (.bool true)∧Below w.heap.size w w':=by
 obtain ⟨hl,hlc,hcm,hcase⟩:=h
 obtain ⟨_,hlc',hcm',hcase'⟩:=h'
 unfold maxLen at hcm hcm'
 have hne:((len:Int) != (len:Int))=false:=by simp
 by_cases h0:len=0
 ·subst h0
  go_enter Tryz.func79,Tryz.ntmps79
  go_wp2
  refine wp_loop_rounds 1 ?_
  rw [rounds_succ]
  go_wp2
  go_ret
  exact ⟨rfl,Below.refl _ _⟩
 rcases hcase with h0' | ⟨b,off,rfl,hblt,hcell⟩
 ·exact absurd h0' h0
 rcases hcase' with h0' | ⟨b',off',rfl,hblt',hcell'⟩
 ·exact absurd h0' h0
 go_enter Tryz.func79,Tryz.ntmps79
 go_wp2
 go_loopw [5] (fun si wr=>∃ k:Nat,k≤len∧si=.int .i64 k∧Below w.heap.size w wr) (fun si _=>len - (intOf si).toNat)
 case atStart=>exact ⟨0,by omega,rfl,Below.refl _ _⟩
 case round =>
  obtain ⟨k,hk,rfl,bw⟩:=hrel
  by_cases hlt:k<len
  ·obtain ⟨s,c0,c1,c2,hm⟩:=hcell k hlt
   obtain ⟨s',d0,d1,d2,hm'⟩:=hcell' k hlt
   have kE:=fun W (hb:Below w.heap.size w W)=>Pb (es.getD k e3d) s s' W (hm.below hb) (hm'.below hb)
   replace c0:=XK bw c0
   replace c1:=XK bw c1
   replace c2:=XK bw c2
   replace d0:=XK bw d0
   replace d1:=XK bw d1
   replace d2:=XK bw d2
   clear hcell hcell' hm hm'
   generalize es.getD k e3d=x at *
   obtain ⟨xk,xb,xz⟩:=x
   obtain ⟨⟨p1,pn1,pc1⟩,⟨p2,pn2,pc2⟩⟩:=s
   obtain ⟨⟨q1,qn1,qc1⟩,⟨q2,qn2,qc2⟩⟩:=s'
   unfold ZM at kE
   simp only at c0 c1 c2 d0 d1 d2 kE
   have hlt2:(k:Int)<(len:Int):=by omega
   have hk0:(0:Int)≤(k:Int):=by omega
   have bd:Below w.heap.size w wr.drew:=Zn bw (by go_grown)
   go_wp2_with fail
   refine wp_region_held_drew (S:=(fun w'=>w'.cell? ⟨b,off+k*3,none⟩=some (.string xk)∧w'.cell? ⟨b,off+k*3+1,none⟩=some (.slice p1 pn1 pc1)∧w'.cell? ⟨b,off+k*3+2,none⟩=some (.slice p2 pn2 pc2)∧w'.cell? ⟨b',off'+k*3,none⟩=some (.string xk)∧w'.cell? ⟨b',off'+k*3+1,none⟩=some (.slice q1 qn1 qc1)∧w'.cell? ⟨b',off'+k*3+2,none⟩=some (.slice q2 qn2 qc2))) (by kernel_rfl) ⟨c0,c1,c2,d0,d1,d2⟩ (fun hS0=>?_)
   refine tkm 0 17 (.slice (some ⟨b,off,none⟩) len cap) ?_
   refine tkm 1 18 (.int .i64 k) ?_
   refine tkm 2 19 (.pointer (some ⟨b,off+k*3,none⟩)) ?_
   refine tkm 3 20 (.agg #[.string xk,.slice p1 pn1 pc1,.slice p2 pn2 pc2]) ?_
   refine tkm 4 21 (.slice (some ⟨b',off',none⟩) len cap') ?_
   refine tkm 5 22 (.int .i64 k) ?_
   refine tkm 6 23 (.pointer (some ⟨b',off'+k*3,none⟩)) ?_
   refine tkm 7 24 (.agg #[.string xk,.slice q1 qn1 qc1,.slice q2 qn2 qc2]) ?_
   refine tkr 8 25 (fun K hK=>?_)
   go_simp
   refine (kE _ bd).mono ?_
   rintro e w1 ⟨rfl,hb⟩
   go_wp2_with fail
   refine hK.out _ _ ?_ (fun hS1=>?_)
   ·exact ⟨Za hb _ _ hS0.1,Za hb _ _ hS0.2.1,Za hb _ _ hS0.2.2.1,Za hb _ _ hS0.2.2.2.1,Za hb _ _ hS0.2.2.2.2.1,Za hb _ _ hS0.2.2.2.2.2⟩
   clear hK
   refine tkm 9 26 (.bool false) ?_
   refine wpAnyH_done (by kernel_rfl) ?_ _
   replace bw:=Zn bd hb
   clear hb bd hS0 hS1 c0 c1 c2 d0 d1 d2 kE
   go_wp2
   go_roundw
   case rel=>exact ⟨k+1,by omega,by go_num,bw⟩
   case measure=>simp [intOf];omega
  go_wp2
  go_ret
  exact ⟨rfl,bw⟩

theorem VN (a a':Option Addr) (len cap cap':Nat) (es:List E3) (w:World) (h:YV w a len cap es) (h':YV w a' len cap' es) :
  Calls Tryz.prog 30 #[.agg #[.slice a len cap],.agg #[.slice a' len cap']] w fun e w'=>e=.returned (.bool true)∧Below w.heap.size w w':=by
 have kE:=fun W (hb:Below w.heap.size w W)=>R1 a a' len cap cap' es W (h.below hb) (h'.below hb)
 have bw:Below w.heap.size w ((w.alloc (.cells #[.slice a len cap] 33)).alloc (.cells #[.slice a' len cap'] 33)):=by go_grown
 go_enter Tryz.func30,Tryz.ntmps30
 go_wp2_with fail
 refine (kE _ bw).mono ?_
 rintro x w1 ⟨rfl,hb⟩
 replace bw:=Zn bw hb
 clear hb kE
 go_wp2
 go_ret
 exact ⟨rfl,bw⟩


def WO (k:Nat) (out:ByteArray):ByteArray:=if _h:k=0 then out else WO (k / 10) (strOfNums [48+((k % 10:Nat):Int)]++out)
termination_by k
decreasing_by omega

def Wl (k:Nat):ByteArray:=⟨#[109]⟩++WO k ByteArray.empty

theorem Sn (k:Nat) (w:World) (h0:0<k) (hk:k≤1000000000) :
  Calls Tryz.prog 139 #[.int .i64 k] w fun e w'=>e=.returned (.string (Wl k))∧Below w.heap.size w w':=by
 unfold Wl
 obtain ⟨fin,hfin⟩:∃ fin,fin=WO k ByteArray.empty:=⟨_,rfl⟩
 rw [← hfin]
 have HF:Hid (WO k ByteArray.empty=fin):=hfin.symm
 clear hfin
 go_enter Tryz.func139,Tryz.ntmps139
 go_wp2
 go_loopw [0,3] (fun sk so wr=>∃ (j:Nat) (out:ByteArray),sk=.int .i64 j∧so=.string out∧j+out.size≤k∧Hid (WO j out=fin)∧Below w.heap.size w wr) (fun sk _ _=>(intOf sk).toNat)
 case atStart=>exact ⟨k,ByteArray.empty,rfl,rfl,by simp,HF,Below.refl _ _⟩
 case round =>
  obtain ⟨j,out,rfl,rfl,hz,hE,hbel⟩:=hrel
  by_cases hj:0<j
  ·have hj':((0:Int)<(j:Int)):=by omega
   have hmod:(j:Int).tmod 10=((j % 10:Nat):Int):=by rw [Int.tmod_eq_emod_of_nonneg (by omega)];omega
   have hdiv:(j:Int).tdiv 10=((j / 10:Nat):Int):=by rw [Int.tdiv_eq_ediv_of_nonneg (by omega)];omega
   have hE2:Hid (WO (j / 10) (strOfNums [48+((j % 10:Nat):Int)]++out)=fin):=by
    have:=hE.out
    rw [WO,dif_neg (by omega)] at this
    exact this
   have hsm:((j % 10:Nat):Int)<10:=by omega
   have hsz:(strOfNums [48+((j % 10:Nat):Int)]++out).size=1+out.size:=by rw [ByteArray.size_append];rfl
   have hdl:j / 10<j:=by omega
   have hsum:j / 10+(1+out.size)≤k:=by omega
   have hnn:(0:Int)≤((j % 10:Nat):Int):=by omega
   generalize j % 10=m at hmod hE2 hsm hsz hnn
   generalize j / 10=q at hdiv hE2 hdl hsum
   have hcv:∀ W:World,(convert 22 9 (.slice (some ⟨W.heap.size,0,none⟩) 1 1)).run Tryz.prog (W.alloc (.cells #[.int .u8 (48+(m:Int))] 5))=.ok (.string (strOfNums [48+(m:Int)])) (W.alloc (.cells #[.int .u8 (48+(m:Int))] 5)):=fun W =>
    Ut (World.ownsRow_lit W #[.int .u8 (48+(m:Int))] 1 (Nat.le_refl _) (by unfold maxLen;omega) rfl)
   have hadd:=fun W=>run_string_add_sum (P:=Tryz.prog) W (strOfNums [48+(m:Int)]) out (by have:(strOfNums [48+(m:Int)]).size=1:=rfl;omega)
   clear hE
   go_wp2
   go_roundw
   case rel=>exact ⟨q,strOfNums [48+(m:Int)]++out,rfl,rfl,by rw [hsz];exact hsum,hE2,Zb hbel (by go_grown)⟩
   case measure=>simp [intOf];omega
  obtain rfl:j=0:=by omega
  obtain rfl:out=fin:=by have:=hE.out;rw [WO,dif_pos rfl] at this;exact this
  have hadd:=fun W=>run_string_add_sum (P:=Tryz.prog) W ⟨#[109]⟩ out (by have:(⟨#[109]⟩:ByteArray).size=1:=rfl;omega)
  clear hE HF
  go_wp2
  go_ret
  exact ⟨rfl,hbel⟩


def TI (e:E3):Nat:=1+e.2.1.length*3+e.2.2.length
def mkE (k:Nat) (e:E3):E3:=(Wl k,mkI ((k:Int)+1) e.2.1 e.2.1.length,WZ ((k:Int)+1+e.2.1.length*3) e.2.2 e.2.2.length)
def mkM:Nat→List E3→Nat→List E3
 | _,es,0=>es
 | _,[],_+1=>[]
 | k,e::es,j+1=>mkE k e::mkM (k+TI e) es j
theorem ST:∀ (k:Nat) (es:List E3) (j:Nat),(mkM k es j).length=es.length
 | _,es,0=>by simp [mkM]
 | _,[],_+1=>by simp [mkM]
 | k,_::es,j+1=>by simp [mkM,ST]
def ZO:List E3→Nat→Nat
 | _,0=>0
 | [],_+1=>0
 | e::es,j+1=>TI e+ZO es j
theorem Vo:∀ (es:List E3) (j:Nat),j<es.length→ZO es (j+1)=ZO es j+TI (es.getD j e3d)
 | [],j,h=>by simp at h
 | e::es,0,_=>by simp [ZO]
 | e::es,j+1,h=>by
  have:=Vo es j (by simpa using h)
  simp only [ZO] at this ⊢
  rw [List.getD_cons_succ]
  omega
theorem M9:∀ (k:Nat) (es:List E3) (j:Nat),j<es.length→(mkM k es j).set j (mkE (k+ZO es j) (es.getD j e3d))=mkM k es (j+1)
 | _,[],j,h=>by simp at h
 | k,e::es,0,_=>by simp [mkM,ZO]
 | k,e::es,j+1,h=>by
  have ih:=M9 (k+TI e) es j (by simpa using h)
  have e9:k+ZO (e::es) (j+1)=k+TI e+ZO es j:=by simp only [ZO];omega
  rw [e9,List.getD_cons_succ]
  simp only [mkM,List.set_cons_succ,ih]
theorem M8:∀ (k:Nat) (es:List E3) (j i:Nat),j≤i→i<es.length→(mkM k es j).getD i e3d=es.getD i e3d
 | _,es,0,i,_,_=>by simp [mkM]
 | _,[],j+1,i,_,h=>by simp at h
 | k,e::es,j+1,i,h,hl=>by
  cases i with
  | zero=>omega
  | succ i =>
   have ih:=M8 (k+TI e) es j i (by omega) (by simpa using hl)
   simpa [mkM] using ih
theorem M7:∀ (k:Nat) (es:List E3) (j i:Nat),i<j→i<es.length→(mkM k es j).getD i e3d=mkE (k+ZO es i) (es.getD i e3d)
 | _,es,0,i,h,_=>by omega
 | _,[],j+1,i,_,h=>by simp at h
 | k,e::es,j+1,0,_,_=>by simp [mkM,ZO]
 | k,e::es,j+1,i+1,h,hl=>by
  have ih:=M7 (k+TI e) es j i (by omega) (by simpa using hl)
  have e9:k+ZO (e::es) (i+1)=k+TI e+ZO es i:=by simp only [ZO];omega
  rw [e9]
  simpa [mkM] using ih

def X0 (w:World) (B T:Nat) (v:Value) (es:List E3):Prop:=∃ cs,w.ownsRow B 45 3 v es.length cs∧Y6 w B es.length cs es∧(∀ x,v.ownBlock=some x→x<T)∧∀ t,t<es.length→(∀ x,(cs.getD (t*3+1) undef).ownBlock=some x→x<T)∧∀ x,(cs.getD (t*3+2) undef).ownBlock=some x→x<T
theorem X0.own {w:World} {B T:Nat} {v:Value} {es:List E3} (h:X0 w B T v es):YW w B v es:=by
 obtain ⟨cs,h1,h2,_⟩:=h
 exact ⟨cs,h1,h2⟩
theorem X0.below {w w':World} {B T:Nat} {v:Value} {es:List E3} (h:X0 w B T v es) (hb:Below w.heap.size w w'):X0 w' B T v es:=by
 obtain ⟨cs,h1,h2,h3,h4⟩:=h
 exact ⟨cs,Zs h1 hb,h2.below hb,h3,h4⟩
theorem YW.top9 {w:World} {B:Nat} {v:Value} {es:List E3} (h:YW w B v es):X0 w B w.heap.size v es:=by
 obtain ⟨cs,h1,h2⟩:=h
 exact ⟨cs,h1,h2,fun x hx=>(h1.lt x hx).2,fun t ht=>⟨fun x hx=>((h2.1 t ht).2.1.lt x hx).2,fun x hx=>((h2.1 t ht).2.2.lt x hx).2⟩⟩
theorem X0.mid {B T B' T':Nat} {w w':World} {v:Value} {es:List E3} (h:X0 w B' T' v es) (hm:Xv B T w w') (hT:T≤B'):X0 w' B' T' v es:=by
 obtain ⟨cs,h1,h2,h3,h4⟩:=h
 exact ⟨cs,hm.owns h1 hT,⟨fun t ht=>⟨(h2.1 t ht).1,hm.owns (h2.1 t ht).2.1 hT,hm.owns (h2.1 t ht).2.2 hT⟩,h2.2⟩,h3,h4⟩
theorem Xz {L:List E3} {j t:Nat} {x:E3} (hj:j<L.length):(L.set j x).getD t e3d=if t=j then x else L.getD t e3d:=by
 by_cases e:t=j
 ·subst e;simp [List.getD,hj]
 rw [if_neg e];simp [List.getD,List.getElem?_set_ne (Ne.symm e)]

theorem Y6.key {w:World} {B P j:Nat} {cs:List Value} {L:List E3} {s:ByteArray} (h:Y6 w B L.length cs L) (hj:j<L.length) (hc:j*3+2<cs.length) (hP:∀ t,t<L.length→(cs.getD (t*3+1) undef).ownBlock≠some P∧(cs.getD (t*3+2) undef).ownBlock≠some P) :
  Y6 (w.setCell ⟨P,j*3,none⟩ (.string s)) B (L.set j (s,(L.getD j e3d).2)).length (cs.set (j*3) (.string s)) (L.set j (s,(L.getD j e3d).2)):=by
 rw [List.length_set]
 have o:∀ i,i≠j*3→(cs.set (j*3) (.string s))[i]?=cs[i]?:=fun i hi=>List.getElem?_set_ne (Ne.symm hi)
 have o1:∀ t,(cs.set (j*3) (.string s)).getD (t*3+1) undef=cs.getD (t*3+1) undef:=fun t=>by rw [List.getD,List.getD,o _ (by omega)]
 have o2:∀ t,(cs.set (j*3) (.string s)).getD (t*3+2) undef=cs.getD (t*3+2) undef:=fun t=>by rw [List.getD,List.getD,o _ (by omega)]
 refine ⟨fun t ht=>?_,fun t t' ht ht' hne=>by rw [o1,o1,o2,o2];exact h.2 t t' ht ht' hne⟩
 rw [o1,o2,Xz hj]
 obtain ⟨q1,q2⟩:=hP t ht
 have h2:=(h.1 t ht).2.setP (j:=j*3) q1 q2 (.string s)
 by_cases e:t=j
 ·subst e
  rw [if_pos rfl]
  exact ⟨by rw [List.getElem?_set_self (by omega)],h2⟩
 rw [if_neg e,o _ (by omega)]
 exact ⟨(h.1 t ht).1,h2⟩
theorem Y6.bugs {w w':World} {B j:Nat} {cs:List Value} {L:List E3} {bs:List I3} (h:Y6 w B L.length cs L) (hj:j<L.length) (hl:bs.length=(L.getD j e3d).2.1.length)
  (hr:w'.ownsRow B 127 3 (cs.getD (j*3+1) undef) bs.length (Zl bs)) (hg:w.grownBy w' (cs.getD (j*3+1) undef).ownBlock) :
  Y6 w' B (L.set j ((L.getD j e3d).1,bs,(L.getD j e3d).2.2)).length cs (L.set j ((L.getD j e3d).1,bs,(L.getD j e3d).2.2)):=by
 rw [List.length_set]
 have hb:=(h.1 j hj).2.1
 refine ⟨fun t ht=>?_,h.2⟩
 rw [Xz hj]
 obtain ⟨k1,k2,k3⟩:=h.1 t ht
 have k3':=k3.kept hg (Yh k3 hb (by decide))
 by_cases e:t=j
 ·subst e
  rw [if_pos rfl]
  exact ⟨k1,hr,k3'⟩
 rw [if_neg e]
 exact ⟨k1,k2.kept hg ((h.2 t j ht hj e).1),k3'⟩
theorem Y6.foot {w w':World} {B j:Nat} {cs:List Value} {L:List E3} {zs:List Int} (h:Y6 w B L.length cs L) (hj:j<L.length)
  (hr:w'.ownsRow B 3 1 (cs.getD (j*3+2) undef) zs.length (zs.map (Value.int .i64))) (hg:w.grownBy w' (cs.getD (j*3+2) undef).ownBlock) :
  Y6 w' B (L.set j ((L.getD j e3d).1,(L.getD j e3d).2.1,zs)).length cs (L.set j ((L.getD j e3d).1,(L.getD j e3d).2.1,zs)):=by
 rw [List.length_set]
 have hb:=(h.1 j hj).2.2
 refine ⟨fun t ht=>?_,h.2⟩
 rw [Xz hj]
 obtain ⟨k1,k2,k3⟩:=h.1 t ht
 have k2':=k2.kept hg (Yh k2 hb (by decide))
 by_cases e:t=j
 ·subst e
  rw [if_pos rfl]
  exact ⟨k1,k2',hr⟩
 rw [if_neg e]
 exact ⟨k1,k2',k3.kept hg ((h.2 t j ht hj e).2)⟩


theorem Xv.bel {B T:Nat} {w wr w1:World} (h:Xv B T w wr) (hb:Below wr.heap.size wr w1) (hB:B≤wr.heap.size):Xv B T w w1:=
 ⟨h.1.trans (hb.mono hB),fun j hj hl=>(hb.block j (Nat.lt_of_lt_of_le hl h.1.size)).trans (h.2 j hj hl)⟩
def KZ (T n:Nat) (cs:List Value):Prop:=∀ t,t<n→(∀ x,(cs.getD (t*3+1) undef).ownBlock=some x→x<T)∧∀ x,(cs.getD (t*3+2) undef).ownBlock=some x→x<T

theorem Rq (B T:Nat) (v:Value) (k:Nat) (es:List E3) (w:World) (hk0:0<k) (hk:k≤100000000) (hcj:∀ j,j≤es.length→ZO es j≤10000000) (hr:∀ t,t<es.length→(es.getD t e3d).2.1.length≤1048576∧(es.getD t e3d).2.2.length≤1048576) (h:X0 w B T v es) :
  Calls Tryz.prog 83 #[v,.int .i64 k] w fun e w'=>e=.returned (.int .i64 (k+ZO es es.length))∧X0 w' B T v (mkM k es es.length)∧Xv B T w w':=by
 obtain ⟨cs0,h1,h2,h3,h4⟩:=h
 rcases h1.2 with ⟨rfl,h0⟩ | ⟨P,cap,cur,rfl,hPB,hh,hlc,hcm,_⟩
 ·obtain rfl:es=[]:=List.eq_nil_of_length_eq_zero h0
  have hfin:X0 w B T (.slice none 0 0) (mkM k [] 0):=⟨cs0,h1,h2,h3,h4⟩
  clear h1 h2 h3 h4
  go_enter Tryz.func83,Tryz.ntmps83
  go_wp2
  refine wp_loop_rounds 1 ?_
  rw [rounds_succ]
  go_wp2
  go_ret
  exact ⟨by simp [ZO],hfin,Xv.refl _ _ _⟩
 clear hh
 unfold maxLen at hcm
 have hPT:P<T:=h3 P rfl
 clear h3
 generalize hn:es.length=n at *
 have HT0:Hid (KZ T n cs0):=h4
 clear h4
 have h2':Y6 w B n cs0 (mkM k es 0):=h2
 clear h2
 go_enter Tryz.func83,Tryz.ntmps83
 go_wp2
 go_loopw [1,5] (fun sk si wr=>∃ (j:Nat) (cs:List Value),j≤n∧si=.int .i64 j∧sk=.int .i64 ((k:Int)+ZO es j)∧wr.ownsRow B 45 3 (.slice (some ⟨P,0,none⟩) n cap) n cs∧Y6 wr B n cs (mkM k es j)∧Hid (KZ T n cs)∧Xv B T w wr) (fun _ si _=>n - (intOf si).toNat)
 case atStart=>exact ⟨0,cs0,by omega,rfl,by simp [ZO],h1,h2',HT0,Xv.refl _ _ _⟩
 case round =>
  clear h1 h2' HT0
  obtain ⟨j,cs,hj,rfl,rfl,ho,hE,HT,hm⟩:=hrel
  by_cases hlt:j<n
  ·have hlt2:(j:Int)<(n:Int):=by omega
   have hj0:(0:Int)≤(j:Int):=by omega
   have hcs:=hcj j hj
   obtain ⟨r1,r2⟩:=hr j hlt
   have hstep:Hid (ZO es (j+1)=ZO es j+TI (es.getD j e3d)):=Vo es j (by omega)
   have hset:=M9 k es j (by omega)
   have hold:=M8 k es j j (Nat.le_refl _) (by omega)
   have hML:=ST k es j
   have hcl:=ho.1
   have hsz:B≤wr.heap.size:=by have:=(ho.lt P rfl);omega
   have hPw:P<wr.heap.size:=(ho.lt P rfl).2
   have hPn:∀ t,t<n→(cs.getD (t*3+1) undef).ownBlock≠some P∧(cs.getD (t*3+2) undef).ownBlock≠some P:=fun t ht=>by
    obtain ⟨_,q1,q2⟩:=hE.1 t ht
    constructor
    ·rcases Yh ho q1 (by decide) with h | h
     ·simp [Value.ownBlock] at h
     exact fun e=>h (by rw [e];rfl)
    rcases Yh ho q2 (by decide) with h | h
    ·simp [Value.ownBlock] at h
    exact fun e=>h (by rw [e];rfl)
   obtain ⟨tb,tf⟩:=HT.out j hlt
   obtain ⟨vb,hvb⟩:∃ vb,vb=cs.getD (j*3+1) undef:=⟨_,rfl⟩
   obtain ⟨vf,hvf⟩:∃ vf,vf=cs.getD (j*3+2) undef:=⟨_,rfl⟩
   rw [← hvb] at tb
   rw [← hvf] at tf
   have HVB:Hid (vb=cs.getD (j*3+1) undef):=hvb
   have HVF:Hid (vf=cs.getD (j*3+2) undef):=hvf
   clear hvb hvf
   generalize hL:mkM k es j=L at *
   have hLn:L.length=n:=by rw [hML,hn]
   clear hL hML
   rw [← hLn] at hE
   -- the key
   have kM:=fun W=>Sn (k+ZO es j) W (by omega) (by omega)
   have e9:((k+ZO es j:Nat):Int)=(k:Int)+(ZO es j:Int):=by omega
   rw [e9] at kM
   clear e9
   generalize ZO es j=c at *
   go_wp2_with fail
   refine (kM _).mono ?_
   rintro e w1 ⟨rfl,hb⟩
   replace ho:=Zs ho hb
   replace hE:=hE.below hb
   replace hm:=hm.bel hb hsz
   replace hsz:=Nat.le_trans hsz hb.size
   clear hb kM
   have f0:=ho.frozenAt (j*3)
   obtain ⟨u0,hu0⟩:∃ u,w1.cell? ⟨P,j*3,none⟩=some u:=⟨_,by rw [ho.cellAt _ (by omega)];exact List.getElem?_eq_getElem (by omega)⟩
   have ho2:=(ho.stored (j*3) (.string (Wl (k+c)))).1
   have hE2:=hE.key (j:=j) (s:=Wl (k+c)) (P:=P) (by omega) (by omega) (fun t ht=>hPn t (by omega))
   have hm2:Xv B T w (w1.setCell ⟨P,j*3,none⟩ (.string (Wl (k+c)))):=hm.step (u:=.slice (some ⟨P,0,none⟩) n cap) (H8 w1 P (j*3) _) hsz (fun x hx=>by cases hx;exact hPB) (fun x hx=>by cases hx;exact hPT)
   have hs2:B≤(w1.setCell ⟨P,j*3,none⟩ (.string (Wl (k+c)))).heap.size:=by simpa using hsz
   have cb:(w1.setCell ⟨P,j*3,none⟩ (.string (Wl (k+c)))).cell? ⟨P,j*3+1,none⟩=some vb:=by
    rw [HVB.out,ho2.cellAt _ (by omega),List.getElem?_set_ne (by omega)]
    simp [List.getD,List.getElem?_eq_getElem (show j*3+1<cs.length by omega)]
   clear ho hE hm hsz
   go_wp2_with fail
   clear f0 hu0
   have g1:(cs.set (j*3) (.string (Wl (k+c)))).getD (j*3+1) undef=vb:=by rw [HVB.out,List.getD,List.getD,List.getElem?_set_ne (by omega)]
   have g2:(cs.set (j*3) (.string (Wl (k+c)))).getD (j*3+2) undef=vf:=by rw [HVF.out,List.getD,List.getD,List.getElem?_set_ne (by omega)]
   have HT2:Hid (KZ T n (cs.set (j*3) (.string (Wl (k+c))))):=fun t ht=>by
    obtain ⟨a1,a2⟩:=HT.out t ht
    rw [List.getD,List.getElem?_set_ne (show j*3≠t*3+1 by omega),List.getD,List.getElem?_set_ne (show j*3≠t*3+2 by omega)]
    exact ⟨a1,a2⟩
   have hl2:(cs.set (j*3) (.string (Wl (k+c)))).length=n*3:=by rw [List.length_set];exact hcl
   rw [hold] at hE2
   generalize (w1.setCell ⟨P,j*3,none⟩ (.string (Wl (k+c))))=W2 at *
   generalize cs.set (j*3) (.string (Wl (k+c)))=ds at *
   clear HT
   have G1:Hid (ds.getD (j*3+1) undef=vb):=g1
   have G2:Hid (ds.getD (j*3+2) undef=vf):=g2
   clear g1 g2 HVB HVF
   generalize es.getD j e3d=x at *
   have q:=(hE2.1 j (by rw [List.length_set];omega)).2
   rw [Xz (by omega),if_pos rfl,G1.out,G2.out] at q
   -- the bugs
   have kB:=UZ B vb ((k:Int)+c+1) x.2.1 W2 (by omega) (by omega) r1 q.1
   refine kB.mono ?_
   rintro e W3 ⟨rfl,hrow,hg⟩
   have hE3:=hE2.bugs (j:=j) (bs:=mkI ((k:Int)+c+1) x.2.1 x.2.1.length) (by rw [List.length_set];omega) (by rw [Xz (by omega),if_pos rfl,WP]) (by rw [G1.out,WP];exact hrow) (by rw [G1.out];exact hg)
   have ho3:=ho2.kept hg (Yh ho2 q.1 (by decide))
   have hm3:=hm2.step hg hs2 (fun y hy=>(q.1.lt y hy).1) tb
   have hs3:B≤W3.heap.size:=by have:=(ho3.lt P rfl);omega
   have cf:W3.cell? ⟨P,j*3+2,none⟩=some vf:=by
    rw [← G2.out,ho3.cellAt _ (by omega)]
    simp [List.getD,List.getElem?_eq_getElem (show j*3+2<ds.length by omega)]
   rw [Xz (by omega),if_pos rfl,List.set_set] at hE3
   clear hE2 ho2 hm2 hs2 cb hrow hg kB q
   have q:=(hE3.1 j (by rw [List.length_set];omega)).2
   rw [Xz (by omega),if_pos rfl,G1.out,G2.out] at q
   -- the foot
   have kF:=Jr B vf ((k:Int)+c+1+x.2.1.length*3) x.2.2 W3 (by omega) (by omega) r2 q.2
   go_wp2_with fail
   refine kF.mono ?_
   rintro e W4 ⟨rfl,hrow,hg⟩
   have hE4:=hE3.foot (j:=j) (zs:=WZ ((k:Int)+c+1+x.2.1.length*3) x.2.2 x.2.2.length) (by rw [List.length_set];omega) (by rw [G2.out,Ta];exact hrow) (by rw [G2.out];exact hg)
   have ho4:=ho3.kept hg (Yh ho3 q.2 (by decide))
   have hm4:=hm3.step hg hs3 (fun y hy=>(q.2.lt y hy).1) tf
   rw [Xz (by omega),if_pos rfl,List.set_set,List.length_set,hLn] at hE4
   have e10:mkE (k+c) x=(Wl (k+c),mkI ((k:Int)+c+1) x.2.1 x.2.1.length,WZ ((k:Int)+c+1+x.2.1.length*3) x.2.2 x.2.2.length):=by
    unfold mkE
    rw [show ((k+c:Nat):Int)=(k:Int)+(c:Int) by omega]
   simp only at hE4
   rw [← e10,hset] at hE4
   have HK:Hid ((k:Int)+c+1+x.2.1.length*3+x.2.2.length=(k:Int)+ZO es (j+1)):=by rw [Hid,hstep.out,TI];omega
   clear hE3 ho3 hm3 hs3 cf hrow hg kF q e10 hset hstep hold tb tf hPn
   go_wp2
   go_roundw
   case rel=>exact ⟨j+1,ds,by omega,by go_num,by rw [← HK.out],ho4,hE4,HT2,hm4⟩
   case measure=>simp [intOf];omega
  obtain rfl:j=n:=by omega
  have hlen:=ST k es j
  go_wp2
  go_ret
  exact ⟨rfl,⟨cs,by rw [hlen,hn];exact ho,by rw [hlen,hn];exact hE,fun x hx=>by cases hx;exact hPT,by rw [hlen,hn];exact HT.out⟩,hm⟩


theorem Vv {w:World} {B e s n g t:Nat} {v:Value} {xs cs:List Value} (h:w.ownsRow B e s v n xs) (hB:Blk w g t cs) (he:e≠t):v.ownBlock≠some g:=by
 rcases h.2 with ⟨rfl,_⟩ | ⟨g',cap,cur,rfl,_,hh,_⟩
 ·simp [Value.ownBlock]
 simp only [Value.ownBlock,ne_eq,Option.some.injEq]
 rintro rfl
 unfold Blk at hB
 rw [hh] at hB
 simp at hB
 exact he hB.2
theorem Pt (B T:Nat) (v:Value) (k:Nat) (es:List E3) (w:World) (hk0:0<k) (hk:k≤100000000) (hcj:∀ j,j≤es.length→ZO es j≤10000000) (hr:∀ t,t<es.length→(es.getD t e3d).2.1.length≤1048576∧(es.getD t e3d).2.2.length≤1048576) (hB:B≤w.heap.size) (h:X0 w B T v es) :
  Calls Tryz.prog 34 #[.agg #[v],.int .i64 k] w fun e w'=>e=.returned (.int .i64 (k+ZO es es.length))∧X0 w' B T v (mkM k es es.length)∧Xv B T w w':=by
 obtain ⟨a,cap,rfl⟩:∃ a cap,v=.slice a es.length cap:=by obtain ⟨cs,h1,_⟩:=h;exact ZH h1
 have kE:=fun W (hb:Below w.heap.size w W)=>Rq B T _ k es W hk0 hk hcj hr (h.below hb)
 have bw:Below w.heap.size w (w.alloc (.cells #[.slice a es.length cap] 33)):=by go_grown
 go_enter Tryz.func34,Tryz.ntmps34
 go_wp2_with fail
 refine (kE _ bw).mono ?_
 rintro e w1 ⟨rfl,h1,hm⟩
 have hm2:=hm.after bw hB
 clear hm kE
 go_wp2
 go_ret
 exact ⟨rfl,h1,hm2⟩

theorem Rf (B:Nat) (v:Value) (k:Nat) (es:List E3) (w:World) (hk0:0<k) (hk:k≤100000000) (hcj:∀ j,j≤es.length→ZO es j≤10000000) (hr:∀ t,t<es.length→(es.getD t e3d).2.1.length≤1048576∧(es.getD t e3d).2.2.length≤1048576) (h:YW w B v (mkM k es es.length)) :
  Calls Tryz.prog 85 #[v,.int .i64 k] w fun e w'=>e=.returned (.int .i64 (k+ZO es es.length))∧Below w.heap.size w w':=by
 obtain ⟨cs,h1,h2⟩:=h
 have hml:=ST k es es.length
 rw [hml] at h1 h2
 rcases h1.2 with ⟨rfl,h0⟩ | ⟨P,cap,cur,rfl,hPB,hh,hlc,hcm,_⟩
 ·obtain rfl:es=[]:=List.eq_nil_of_length_eq_zero h0
  clear h1 h2
  go_enter Tryz.func85,Tryz.ntmps85
  go_wp2
  refine wp_loop_rounds 1 ?_
  rw [rounds_succ]
  go_wp2
  go_ret
  exact ⟨by simp [ZO],Below.refl _ _⟩
 clear hh
 unfold maxLen at hcm
 generalize hn:es.length=n at *
 have hcl:=h1.1
 go_enter Tryz.func85,Tryz.ntmps85
 go_wp2
 go_loopw [1,5] (fun sk si wr=>∃ (j:Nat),j≤n∧si=.int .i64 j∧sk=.int .i64 ((k:Int)+ZO es j)∧Below w.heap.size w wr) (fun _ si _=>n - (intOf si).toNat)
 case atStart=>exact ⟨0,by omega,rfl,by simp [ZO],Below.refl _ _⟩
 case round =>
  obtain ⟨j,hj,rfl,rfl,bw⟩:=hrel
  by_cases hlt:j<n
  ·have hlt2:(j:Int)<(n:Int):=by omega
   have hj0:(0:Int)≤(j:Int):=by omega
   have hcs:=hcj j hj
   obtain ⟨r1,r2⟩:=hr j hlt
   have HS:Hid (ZO es (j+1)=ZO es j+TI (es.getD j e3d)):=Vo es j (by omega)
   obtain ⟨k1,k2⟩:=h2.1 j hlt
   rw [M7 k es n j hlt (by omega)] at k1 k2
   obtain ⟨s,e1,e2⟩:=k2.slices
   have c0:=(h1.cellAt (j*3) (by omega)).trans k1
   have c1:w.cell? ⟨P,j*3+1,none⟩=some (cs.getD (j*3+1) undef):=by rw [h1.cellAt _ (by omega)];simp [List.getD,List.getElem?_eq_getElem (show j*3+1<cs.length by omega)]
   have c2:w.cell? ⟨P,j*3+2,none⟩=some (cs.getD (j*3+2) undef):=by rw [h1.cellAt _ (by omega)];simp [List.getD,List.getElem?_eq_getElem (show j*3+2<cs.length by omega)]
   rw [e1] at c1
   rw [e2] at c2
   rw [e1,e2] at k2
   clear e1 e2 k1
   replace k2:=k2.below bw
   replace c0:=XK bw c0
   replace c1:=XK bw c1
   replace c2:=XK bw c2
   generalize es.getD j e3d=x at *
   have kM:=fun W=>Sn (k+ZO es j) W (by omega) (by omega)
   unfold mkE at k2 c0
   rw [show ((k+ZO es j:Nat):Int)=(k:Int)+(ZO es j:Int) by omega] at kM k2
   obtain ⟨xk,xb,xz⟩:=x
   simp only at *
   generalize ZO es j=c at *
   obtain ⟨q1,q2⟩:=k2
   simp only at q1 q2
   rw [WP] at q1
   rw [Ta] at q2
   generalize Wl (k+c)=mk at *
   obtain ⟨⟨a1,n1,d1⟩,⟨a2,n2,d2⟩⟩:=s
   simp only at *
   have hkk:(mk.toList == mk.toList)=true:=by simp
   go_wp2_with fail
   refine wp_region_held_drew (S:=(fun w'=>w'.cell? ⟨P,j*3,none⟩=some (.string mk))) (by kernel_rfl) c0 (fun hS0=>?_)
   refine tkm 0 12 (.slice (some ⟨P,0,none⟩) n cap) ?_
   refine tkm 1 13 (.int .i64 j) ?_
   refine tkm 2 14 (.pointer (some ⟨P,j*3,none⟩)) ?_
   refine tkm 3 15 (.pointer (some ⟨P,j*3,none⟩)) ?_
   refine tkm 4 16 (.string mk) ?_
   refine tkm 5 17 (.int .i64 ((k:Int)+c)) ?_
   refine tkr 6 18 (fun K hK=>?_)
   go_simp
   refine (kM _).mono ?_
   rintro e w1 ⟨rfl,hb⟩
   go_wp2_with fail
   refine hK.out _ _ ?_ (fun hS1=>?_)
   ·exact Za hb _ _ hS0
   clear hK
   refine tkm 7 19 (.bool false) ?_
   refine wpAnyH_done (by kernel_rfl) ?_ _
   have hbb:Below wr.heap.size wr w1:=Zn (by go_grown) hb
   replace bw:=Zn bw hbb
   replace c1:=XK hbb c1
   replace c2:=XK hbb c2
   have kB:=UN B (.slice a1 n1 d1) ((k:Int)+c+1) xb w1 (by omega) (by omega) r1 (Zs q1 hbb)
   have kF:=Jc B (.slice a2 n2 d2) ((k:Int)+c+1+xb.length*3) xz w1 (by omega) (by omega) r2 (Zs q2 hbb)
   clear hb hbb hS0 hS1 c0 q1 q2 kM
   have g1:decide ((k:Int)+c+1+xb.length*3<0)=false:=by simp;omega
   have g2:decide ((k:Int)+c+1+xb.length*3+xz.length<0)=false:=by simp;omega
   have HK:Hid ((k:Int)+c+1+xb.length*3+xz.length=(k:Int)+ZO es (j+1)):=by rw [Hid,HS.out,TI];simp only;omega
   clear HS
   go_wp2_with fail
   refine kB.mono ?_
   rintro e W2 ⟨rfl,rfl⟩
   go_wp2_with fail
   refine kF.mono ?_
   rintro e W2 ⟨rfl,rfl⟩
   clear kB kF c1 c2
   go_wp2
   go_roundw
   case rel=>exact ⟨j+1,by omega,by go_num,by rw [← HK.out],bw⟩
   case measure=>simp [intOf];omega
  obtain rfl:j=n:=by omega
  go_wp2
  go_ret
  exact ⟨rfl,bw⟩

theorem UO (B:Nat) (v:Value) (k:Nat) (es:List E3) (w:World) (hk0:0<k) (hk:k≤100000000) (hcj:∀ j,j≤es.length→ZO es j≤10000000) (hr:∀ t,t<es.length→(es.getD t e3d).2.1.length≤1048576∧(es.getD t e3d).2.2.length≤1048576) (h:YW w B v (mkM k es es.length)) :
  Calls Tryz.prog 36 #[.agg #[v],.int .i64 k] w fun e w'=>e=.returned (.int .i64 (k+ZO es es.length))∧Below w.heap.size w w':=by
 obtain ⟨a,cap,rfl⟩:∃ a cap,v=.slice a (mkM k es es.length).length cap:=by obtain ⟨cs,h1,_⟩:=h;exact ZH h1
 have kE:=fun W (hb:Below w.heap.size w W)=>Rf B _ k es W hk0 hk hcj hr (h.below hb)
 have bw:Below w.heap.size w (w.alloc (.cells #[.slice a (mkM k es es.length).length cap] 33)):=by go_grown
 have hc:=hcj es.length (Nat.le_refl _)
 have g1:decide ((k:Int)+ZO es es.length<0)=false:=by simp;omega
 generalize (mkM k es es.length).length=nn at *
 go_enter Tryz.func36,Tryz.ntmps36
 go_wp2_with fail
 refine (kE _ bw).mono ?_
 rintro e w1 ⟨rfl,hb⟩
 replace bw:=Zn bw hb
 clear hb kE
 go_wp2
 go_ret
 exact ⟨rfl,bw⟩


theorem Xx {w w':World} {B T e s n:Nat} {v:Value} {xs:List Value} (h:w.ownsRow B e s v n xs) (hT:∀ x,v.ownBlock=some x→x<T) (hb:Below T w w'):w'.ownsRow B e s v n xs:=by
 refine ⟨h.1,?_⟩
 rcases h.2 with h0 | ⟨g,cap,cur,hv,hBg,hg,rest⟩
 ·exact .inl h0
 exact .inr ⟨g,cap,cur,hv,hBg,(hb.block g (hT g (by rw [hv];rfl))).trans hg,rest⟩
theorem X0.under {w w':World} {B T T':Nat} {v:Value} {es:List E3} (h:X0 w B T v es) (hb:Below T' w w') (hT:T≤T'):X0 w' B T v es:=by
 obtain ⟨cs,h1,h2,h3,h4⟩:=h
 exact ⟨cs,Xx h1 (fun x hx=>Nat.lt_of_lt_of_le (h3 x hx) hT) hb,⟨fun t ht=>⟨(h2.1 t ht).1,Xx (h2.1 t ht).2.1 (fun x hx=>Nat.lt_of_lt_of_le ((h4 t ht).1 x hx) hT) hb,Xx (h2.1 t ht).2.2 (fun x hx=>Nat.lt_of_lt_of_le ((h4 t ht).2 x hx) hT) hb⟩,h2.2⟩,h3,h4⟩
theorem YW.nil9 (w:World) (B:Nat):YW w B (.slice none 0 0) []:=⟨[],World.ownsRow_nil _ _ _ _,fun t ht=>by simp at ht,fun t _ ht=>by simp at ht⟩
theorem YW.lower {w:World} {B B':Nat} {v:Value} {es:List E3} (h:YW w B v es) (hB:B'≤B):YW w B' v es:=by
 obtain ⟨cs,h1,h2,h3⟩:=h
 exact ⟨cs,Z4 h1 hB,fun t ht=>⟨(h2 t ht).1,(h2 t ht).2.lower hB⟩,h3⟩
theorem YW.slice9 {w:World} {B:Nat} {v:Value} {es:List E3} (h:YW w B v es):∃ a c,v=.slice a es.length c:=by
 obtain ⟨cs,h1,_⟩:=h
 exact ZH h1


theorem UX:∀ (rows:List (List I3)) (left:Int),0≤Yc left rows→0≤left→∀ r ∈ rows,(r.length:Int)≤left
 | [],_,_,_,r,hr=>by cases hr
 | x::xs,left,h,h0,r,hr=>by
  unfold Yc at h
  split at h
  ·omega
  rcases List.mem_cons.1 hr with rfl | hr
  ·omega
  have:=UX xs (left - x.length) h (by omega) r hr
  omega

theorem Rd {rows:List (List I3)} {n:Nat} (h:∀ r ∈ rows,r.length≤n) (t:Nat):(rows.getD t []).length≤n:=by
 by_cases ht:t<rows.length
 ·have:rows.getD t []=rows[t]:=by simp [List.getD,ht]
  rw [this]
  exact h _ (List.getElem_mem ht)
 have:rows.getD t []=[]:=by simp [List.getD,List.getElem?_eq_none (Nat.le_of_not_lt ht)]
 rw [this]
 exact Nat.zero_le _

theorem NG {rows:List (List I3)} {left:Int} (hm:left≤1048576) (h:0≤YR left rows) (h0:0≤left):rows.length≤1048576∧∀ t,(rows.getD t []).length≤1048576:=by
 unfold YR at h
 split at h
 ·omega
 refine ⟨by omega,fun t=>Rd (fun r hr=>?_) t⟩
 have:=UX rows _ h (by omega) r hr
 omega


theorem TU {w:World} {ad:Addr} {n c:Nat} {xs:List I3} (h:Zm w (some ad) n c xs):∀ j u,(Zl xs)[j]?=some u→w.cell? (ad.add j)=some u:=by
 have h':=h
 obtain ⟨hl,_,_,_,hc⟩:=h
 rcases hc with h0 | ⟨b,off,ha,_⟩
 ·obtain rfl:xs=[]:=List.eq_nil_of_length_eq_zero (hl.trans h0)
  intro j u hj
  simp [Zl] at hj
 cases ha
 exact ZI h'
theorem Ju {w:World} {ad:Addr} {n c:Nat} {xs:List Int} (h:Yi .i64 w (some ad) n c xs):∀ j u,(xs.map (Value.int .i64))[j]?=some u→w.cell? (ad.add j)=some u:=by
 have h':=h
 obtain ⟨hl,_,_,hc⟩:=h
 rcases hc with h0 | ⟨b,off,ha,_⟩
 ·obtain rfl:xs=[]:=List.eq_nil_of_length_eq_zero (hl.trans h0)
  intro j u hj
  simp at hj
 cases ha
 exact WQ h'

theorem NE {P:Program} {w:World} (base:Nat) (t ty e:TypeId) (i:TypeInfo) (z:Value) (size bytes:Nat) (ht:P.underlying t=some (.slice e)) (hi:P.info? e=some i) (hz:i.zero=some z)
  (hsize:i.size=size) (hby:i.bytes=bytes) (hzs:z.cells.size=size) (hsz:0<size)
  (v:Value) (n:Nat) (xs:List Value) (hown:w.ownsRow base e size v n xs)
  (a:Option Addr) (m c:Nat) (hno:a=none→m=0∧c=0) (news:List Value) (hl:news.length=m*size) (hnews:∀ ad,a=some ad→∀ j u,news[j]?=some u→w.cell? (ad.add j)=some u) (h1:∀ u ∈ news,u.oneCell'=true)
  (h63:n+m≤maxLen) (hbytes:(n+m)*bytes≤140737488355328) (hbase:base≤w.heap.size) :
  ∃ v' w',(Builtin.append_ #[t,t] ty #[v,.slice a m c]).run P w=.ok v' w'∧w'.ownsRow base e size v' (n+m) (xs++news)∧w.grownBy w' v.ownBlock∧(v'.ownBlock=v.ownBlock∨v'.ownBlock=some w.heap.size):=by
 cases a with
 | none =>
  obtain ⟨rfl,rfl⟩:=hno rfl
  obtain rfl:news=[]:=List.eq_nil_of_length_eq_zero (by rw [hl,Nat.zero_mul])
  exact ⟨v,w,run_append_owned_none (P:=P) (w:=w) base t ty e i size ht hi v n xs hown,by simpa using hown,⟨rfl,rfl,rfl,Nat.le_refl _,fun _ _ _=>rfl⟩,.inl rfl⟩
 | some ad =>
  obtain ⟨v',w',hrun,r1,r2,_,r4⟩:=run_append_own_at (P:=P) (w:=w) base t ty e i z size bytes ht hi hz hsize hby hzs hsz v n xs hown ad m c news hl (hnews ad rfl) h1 h63 hbytes hbase
  exact ⟨v',w',hrun,r1,r2,r4⟩
theorem Xg {P:Program} {w:World} {ops:Array Oper} {rest:List Oper} {o:Oper} {act:Act} {Q:Exit→Act→World→Prop} (hgd:o.guard=none) (s x:Operand) (t:TypeId)
  (ho:o.op=.call { callee:=.builtin .append,args:=#[s,x],argTypes:=#[t,t] })
  (base:Nat) (e:TypeId) (i:TypeInfo) (z:Value) (size bytes:Nat) (ht:P.underlying t=some (.slice e)) (hi:P.info? e=some i) (hz:i.zero=some z)
  (hsize:i.size=size) (hby:i.bytes=bytes) (hzs:z.cells.size=size) (hsz:0<size)
  (v:Value) (n:Nat) (xs:List Value) (hs:act.eval s=v) (hown:w.ownsRow base e size v n xs)
  (a:Option Addr) (m c:Nat) (hx:act.eval x=.slice a m c) (hno:a=none→m=0∧c=0) (news:List Value) (hl:news.length=m*size) (hnews:∀ ad,a=some ad→∀ j u,news[j]?=some u→w.cell? (ad.add j)=some u) (h1:∀ u ∈ news,u.oneCell'=true)
  (h63:n+m≤maxLen) (hbytes:(n+m)*bytes≤140737488355328) (hbase:base≤w.heap.size)
  (h:∀ v' w',w'.ownsRow base e size v' (n+m) (xs++news)→w.grownBy w' v.ownBlock→(v'.ownBlock=v.ownBlock∨v'.ownBlock=some w.heap.size)→wpList P ops Q rest (act.put o.dst v') w'):wpList P ops Q (o::rest) act w:=by
 refine wpList_plain hgd fun K hK=>?_
 obtain ⟨v',w',hrun,r1,r2,r4⟩:=NE (P:=P) (w:=w) base t o.type e i z size bytes ht hi hz hsize hby hzs hsz v n xs hown a m c hno news hl hnews h1 h63 hbytes hbase
 unfold Oper.wp
 simp [execOp,ho,resolve,invoke,builtin,hs,hx,hrun,Result.andThen]
 exact hK _ _ (h v' w' r1 r2 r4)
theorem ZP {P:Program} {ops:Array Oper} {o:Oper} {act:Act} {w:World} {K:Act→World→Prop} {Q:Exit→Act→World→Prop} {E:Prop}
  (hg:o.guard=none) (s x:Operand) (t:TypeId) (hop:o.op=Op.call { callee:=Callee.builtin Builtin.append,args:=#[s,x],argTypes:=#[t,t] })
  (base:Nat) (e:TypeId) (i:TypeInfo) (z:Value) (size bytes:Nat) (ht:P.underlying t=some (.slice e)) (hi:P.info? e=some i) (hz:i.zero=some z)
  (hsize:i.size=size) (hby:i.bytes=bytes) (hzs:z.cells.size=size) (hsz:0<size)
  (v:Value) (n:Nat) (xs:List Value) (hs:act.eval s=v) (hown:w.ownsRow base e size v n xs)
  (a:Option Addr) (m c:Nat) (hx:act.eval x=.slice a m c) (hno:a=none→m=0∧c=0) (news:List Value) (hl:news.length=m*size) (hnews:∀ ad,a=some ad→∀ j u,news[j]?=some u→w.cell? (ad.add j)=some u) (h1:∀ u ∈ news,u.oneCell'=true)
  (h63:n+m≤maxLen) (hbytes:(n+m)*bytes≤140737488355328) (hbase:base≤w.heap.size)
  (hK:∀ v' w',w'.ownsRow base e size v' (n+m) (xs++news)→w.grownBy w' v.ownBlock→(v'.ownBlock=v.ownBlock∨v'.ownBlock=some w.heap.size)→K (act.put o.dst v') w') :
  if Region.wanted o (yielded ops act.tmps)=true then Oper.wp P o act w K Q else E:=by
 have hw:Region.wanted o (yielded ops act.tmps)=true:=by simp [Region.wanted,hg]
 rw [if_pos hw]
 obtain ⟨v',w',hrun,r1,r2,r4⟩:=NE (P:=P) (w:=w) base t o.type e i z size bytes ht hi hz hsize hby hzs hsz v n xs hown a m c hno news hl hnews h1 h63 hbytes hbase
 subst hs
 unfold Oper.wp
 simp [execOp,hop,resolve,invoke,builtin,hx,hrun,Result.andThen]
 exact hK v' w' r1 r2 r4

abbrev EQ:=E3 × Sl2
def ZZ (L:List EQ):List Value:=L.flatMap fun x=>Yj x.1.1 x.2
theorem T6 (L M:List EQ):ZZ (L++M)=ZZ L++ZZ M:=by simp [ZZ]
theorem ZU (L:List EQ):(ZZ L).length=L.length*3:=by
 induction L with
 | nil=>rfl
 | cons x L ih =>
  have:ZZ (x::L)=Yj x.1.1 x.2++ZZ L:=rfl
  rw [this,List.length_append,ih]
  simp [Yj]
  omega
theorem WM:∀ {L:List EQ} {t j:Nat} {x:EQ},L[t]?=some x→j<3→(ZZ L)[t*3+j]?=(Yj x.1.1 x.2)[j]?
 | [],t,j,x,h,_=>by simp at h
 | y::L,0,j,x,h,hj=>by
  simp at h
  subst h
  have:ZZ (y::L)=Yj y.1.1 y.2++ZZ L:=rfl
  rw [this,Nat.zero_mul,Nat.zero_add,List.getElem?_append_left (by simp [Yj];omega)]
 | y::L,t+1,j,x,h,hj=>by
  simp at h
  have:ZZ (y::L)=Yj y.1.1 y.2++ZZ L:=rfl
  rw [this,List.getElem?_append_right (by simp [Yj];omega)]
  rw [show (t+1)*3+j - (Yj y.1.1 y.2).length=t*3+j by simp [Yj];omega]
  exact WM h hj
theorem YX (L:List EQ):∀ u ∈ ZZ L,u.oneCell'=true:=by
 intro u hu
 obtain ⟨x,_,hx⟩:=List.mem_flatMap.1 hu
 simp [Yj] at hx
 rcases hx with rfl | rfl | rfl<;>rfl
def Xo (w:World) (a:Option Addr) (n c:Nat) (L:List EQ):Prop:=
 L.length=n∧n≤c∧c≤maxLen∧(∀ x ∈ L,YI w x.2 x.1)∧(n=0∨∃ b off,a=some ⟨b,off,none⟩∧b<w.heap.size∧∀ j u,(ZZ L)[j]?=some u→w.cell? ⟨b,off+j,none⟩=some u)
theorem Xo.below {w w':World} {a:Option Addr} {n c:Nat} {L:List EQ} (h:Xo w a n c L) (hb:Below w.heap.size w w'):Xo w' a n c L:=by
 obtain ⟨h1,h2,h3,h4,h5⟩:=h
 refine ⟨h1,h2,h3,fun x hx=>(h4 x hx).below hb,?_⟩
 rcases h5 with h0 | ⟨b,off,ha,hlt,hc⟩
 ·exact .inl h0
 exact .inr ⟨b,off,ha,by have:=hb.size;omega,fun j u hj=>by rw [hb.cell (p:=⟨b,_,none⟩) hlt];exact hc j u hj⟩
theorem LI {L:List EQ} {t:Nat} {x:EQ} (h:L[t]?=some x):(L.map (·.1)).getD t e3d=x.1:=by simp [List.getD,List.getElem?_map,h]
theorem Xo.ents {w:World} {a:Option Addr} {n c:Nat} {L:List EQ} (h:Xo w a n c L):YV w a n c (L.map (·.1)):=by
 obtain ⟨h1,h2,h3,h4,h5⟩:=h
 refine ⟨by simpa using h1,h2,h3,?_⟩
 rcases h5 with h0 | ⟨b,off,ha,hlt,hc⟩
 ·exact .inl h0
 refine .inr ⟨b,off,ha,hlt,fun t ht=>?_⟩
 have hx:L[t]?=some L[t]:=List.getElem?_eq_getElem (by omega)
 rw [LI hx]
 refine ⟨L[t].2,?_,?_,?_,h4 _ (List.getElem_mem _)⟩
 ·exact hc _ _ (by have:=WM hx (j:=0) (by omega);rw [Nat.add_zero] at this;rw [this];rfl)
 ·rw [Nat.add_assoc];exact hc _ _ (by rw [WM hx (j:=1) (by omega)];rfl)
 rw [Nat.add_assoc];exact hc _ _ (by rw [WM hx (j:=2) (by omega)];rfl)
theorem S7:∀ {L:List EQ} {j:Nat} {u:Value},(ZZ L)[j]?=some u→∃ t i x,j=t*3+i∧i<3∧L[t]?=some x∧(Yj x.1.1 x.2)[i]?=some u:=by
 intro L j u hj
 have hl:j<L.length*3:=by
  rw [← ZU]
  exact (List.getElem?_eq_some_iff.1 hj).1
 have hx:L[j / 3]?=some (L[j / 3]'(by omega)):=List.getElem?_eq_getElem (by omega)
 refine ⟨j / 3,j % 3,_,by omega,by omega,hx,?_⟩
 rw [← WM hx (by omega),show j / 3*3+j % 3=j by omega]
 exact hj
theorem YV.q {w:World} {a:Option Addr} {n c:Nat} {es:List E3} (h:YV w a n c es):∃ L:List EQ,L.map (·.1)=es∧Xo w a n c L:=by
 obtain ⟨h1,h2,h3,h4⟩:=h
 rcases h4 with h0 | ⟨b,off,ha,hlt,hc⟩
 ·obtain rfl:es=[]:=List.eq_nil_of_length_eq_zero (h1.trans h0)
  exact ⟨[],rfl,by simpa using h1,h2,h3,by simp,.inl h0⟩
 obtain ⟨Y,hY⟩:=Go.Deep.choose_lt (α:=Sl2) (n:=n) hc
 have hat:∀ t,t<n→((List.range n).map fun i=>((es.getD i e3d,Y i):EQ))[t]?=some (es.getD t e3d,Y t):=fun t ht=>by simp [List.getElem?_map,List.getElem?_range ht]
 refine ⟨(List.range n).map fun i=>(es.getD i e3d,Y i),?_,by simp,h2,h3,?_,.inr ⟨b,off,ha,hlt,fun j u hj=>?_⟩⟩
 ·apply List.ext_getElem?
  intro t
  by_cases ht:t<n
  ·rw [List.getElem?_map,hat t ht]
   simp [List.getD,List.getElem?_eq_getElem (show t<es.length by omega)]
  rw [List.getElem?_eq_none (by simp;omega),List.getElem?_eq_none (by omega)]
 ·intro x hx
  obtain ⟨i,hi,rfl⟩:=List.mem_map.1 hx
  exact (hY i (List.mem_range.1 hi)).2.2.2
 obtain ⟨t,i,x,rfl,hi,hx,hu⟩:=S7 hj
 have ht:t<n:=by
  have:=(List.getElem?_eq_some_iff.1 hx).1
  simpa using this
 rw [hat t ht] at hx
 cases hx
 obtain ⟨c0,c1,c2,_⟩:=hY t ht
 match i,hi with
 | 0,_=>simp [Yj] at hu;rw [← hu];exact c0
 | 1,_=>simp [Yj] at hu;rw [← hu,← Nat.add_assoc];exact c1
 | 2,_=>simp [Yj] at hu;rw [← hu,← Nat.add_assoc];exact c2
theorem Xo.of_owns {w:World} {B:Nat} {a:Option Addr} {n c:Nat} {L:List EQ} (h:w.ownsRow B 45 3 (.slice a n c) n (ZZ L)) (hm:∀ x ∈ L,YI w x.2 x.1):Xo w a n c L:=by
 have hl:=h.1
 rw [ZU] at hl
 have hl2:L.length=n:=by omega
 rcases h.2 with ⟨hv,h0⟩ | ⟨g,cap,cur,hv,_,hg,hn,hcm,_,_⟩
 ·injection hv with e1 e2 e3
  exact ⟨hl2,by omega,by unfold maxLen;omega,hm,.inl h0⟩
 injection hv with e1 e2 e3
 subst e1 e3
 refine ⟨hl2,hn,hcm,hm,.inr ⟨g,0,rfl,(h.lt g rfl).2,fun j u hj=>?_⟩⟩
 have hjl:j<n*3:=by
  have:=(List.getElem?_eq_some_iff.1 hj).1
  rw [ZU] at this
  omega
 rw [Nat.zero_add,h.cellAt j hjl]
 exact hj
theorem Xo.news {w:World} {ad:Addr} {n c:Nat} {L:List EQ} (h:Xo w (some ad) n c L):∀ j u,(ZZ L)[j]?=some u→w.cell? (ad.add j)=some u:=by
 obtain ⟨h1,_,_,_,h5⟩:=h
 intro j u hj
 rcases h5 with h0 | ⟨b,off,ha,_,hc⟩
 ·obtain rfl:L=[]:=List.eq_nil_of_length_eq_zero (h1.trans h0)
  simp [ZZ] at hj
 cases ha
 have e:(⟨b,off,none⟩:Addr).add j=⟨b,off+j,none⟩:=by unfold Addr.add;split<;>simp_all
 rw [e]
 exact hc j u hj

theorem Xp.kept9 {w w':World} {B B' n:Nat} {vb vf v:Value} {e:E3} {cs:List Value} (h:Xp w B vb vf e) (hg:w.grownBy w' v.ownBlock) (ho:w.ownsRow B' 45 3 v n cs):Xp w' B vb vf e:=
 ⟨h.1.kept hg (Yh h.1 ho (by decide)),h.2.kept hg (Yh h.2 ho (by decide))⟩
theorem YW.snoc9 {w w1 w2 w3:World} {B:Nat} {v v':Value} {es:List E3} {e:E3} {s:Sl2} {cs:List Value} (h:w.ownsRow B 45 3 v es.length cs) (hE:Y6 w B es.length cs es) (hb:Below w.heap.size w w1)
  (hn:Xp w1 w.heap.size (.slice s.1.1 s.1.2.1 s.1.2.2) (.slice s.2.1 s.2.2.1 s.2.2.2) e) (hb2:Below w1.heap.size w1 w2) (hg:w2.grownBy w3 v.ownBlock) (ho:w3.ownsRow B 45 3 v' (es.length+1) (cs++Yj e.1 s)) (hB:B≤w.heap.size):YW w3 B v' (es++[e]):=by
 have hl:=h.1
 have h2:w2.ownsRow B 45 3 v es.length cs:=Zs (Zs h hb) hb2
 have old:∀ t,t<es.length→(cs++Yj e.1 s)[t*3]?=cs[t*3]?∧(cs++Yj e.1 s).getD (t*3+1) undef=cs.getD (t*3+1) undef∧(cs++Yj e.1 s).getD (t*3+2) undef=cs.getD (t*3+2) undef:=fun t ht =>
  ⟨List.getElem?_append_left (by omega),by rw [List.getD,List.getD,List.getElem?_append_left (by omega)],by rw [List.getD,List.getD,List.getElem?_append_left (by omega)]⟩
 have n0:(cs++Yj e.1 s)[es.length*3]?=some (.string e.1):=by rw [← hl,List.getElem?_append_right (Nat.le_refl _),Nat.sub_self];rfl
 have n1:(cs++Yj e.1 s).getD (es.length*3+1) undef=.slice s.1.1 s.1.2.1 s.1.2.2:=by rw [List.getD,← hl,List.getElem?_append_right (by omega),Nat.add_sub_cancel_left];rfl
 have n2:(cs++Yj e.1 s).getD (es.length*3+2) undef=.slice s.2.1 s.2.2.1 s.2.2.2:=by rw [List.getD,← hl,List.getElem?_append_right (by omega),Nat.add_sub_cancel_left];rfl
 have eo:∀ t,t<es.length→(es++[e]).getD t e3d=es.getD t e3d:=fun t ht=>by rw [List.getD,List.getD,List.getElem?_append_left ht]
 have en:(es++[e]).getD es.length e3d=e:=by simp [List.getD]
 have lb:∀ x,(Value.slice s.1.1 s.1.2.1 s.1.2.2).ownBlock=some x→w.heap.size≤x:=fun x hx=>(hn.1.lt x hx).1
 have lf:∀ x,(Value.slice s.2.1 s.2.2.1 s.2.2.2).ownBlock=some x→w.heap.size≤x:=fun x hx=>(hn.2.lt x hx).1
 refine ⟨cs++Yj e.1 s,by simpa using ho,?_⟩
 rw [List.length_append,List.length_singleton]
 refine ⟨fun t ht=>?_,fun t t' ht ht' hne=>?_⟩
 ·by_cases e9:t=es.length
  ·subst e9
   rw [n0,n1,n2,en]
   exact ⟨rfl,((hn.lower hB).below hb2).kept9 hg h2⟩
  obtain ⟨o1,o2,o3⟩:=old t (by omega)
  rw [o1,o2,o3,eo t (by omega)]
  obtain ⟨k1,k2⟩:=hE.1 t (by omega)
  exact ⟨k1,((k2.below hb).below hb2).kept9 hg h2⟩
 by_cases e9:t=es.length
 ·subst e9
  obtain ⟨_,o2,o3⟩:=old t' (by omega)
  obtain ⟨_,k2⟩:=hE.1 t' (by omega)
  rw [n1,n2,o2,o3]
  exact ⟨(UF (B':=0) k2.1 lb).2,(UF (B':=0) k2.2 lf).2⟩
 obtain ⟨_,o2,o3⟩:=old t (by omega)
 by_cases e9':t'=es.length
 ·subst e9'
  obtain ⟨_,k2⟩:=hE.1 t (by omega)
  rw [n1,n2,o2,o3]
  exact ⟨(UF (B':=0) k2.1 lb).1,(UF (B':=0) k2.2 lf).1⟩
 obtain ⟨_,o2',o3'⟩:=old t' (by omega)
 rw [o2,o3,o2',o3']
 exact hE.2 t t' (by omega) (by omega) hne
end Go.Proofs.YtnffeclgboomoaaGreatDoor
