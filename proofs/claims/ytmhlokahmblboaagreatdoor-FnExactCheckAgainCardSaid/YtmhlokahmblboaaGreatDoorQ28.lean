/-
  Joined: Ent9, EsO.
-/
import Derived.Test.YtmhlokahmblboaaGreatDoorQ27

namespace Go.Proofs.YtmhlokahmblboaaGreatDoor
set_option maxRecDepth 100000
set_option maxHeartbeats 16000000
open Go.RowKit
set_option linter.unusedVariables false
set_option linter.unusedSimpArgs false

theorem TV {w:World} {ad:Addr} {n c:Nat} {xs:List I3} (h:Zj w (some ad) n c xs):∀ j u,(Zk xs)[j]?=some u→w.cell? (ad.add j)=some u:=by
 have h':=h
 obtain ⟨hl,_,_,_,hc⟩:=h
 rcases hc with h0 | ⟨b,off,ha,_⟩
 ·obtain rfl:xs=[]:=List.eq_nil_of_length_eq_zero (hl.trans h0)
  intro j u hj
  simp [Zk] at hj
 cases ha
 exact ZR h'
theorem Hg {w:World} {ad:Addr} {n c:Nat} {xs:List Int} (h:ZW .i64 w (some ad) n c xs):∀ j u,(xs.map (Value.int .i64))[j]?=some u→w.cell? (ad.add j)=some u:=by
 have h':=h
 obtain ⟨hl,_,_,hc⟩:=h
 rcases hc with h0 | ⟨b,off,ha,_⟩
 ·obtain rfl:xs=[]:=List.eq_nil_of_length_eq_zero (hl.trans h0)
  intro j u hj
  simp at hj
 cases ha
 exact Up h'

theorem Mb {P:Program} {w:World} (base:Nat) (t ty e:TypeId) (i:TypeInfo) (z:Value) (size bytes:Nat) (ht:P.underlying t=some (.slice e)) (hi:P.info? e=some i) (hz:i.zero=some z)
  (hsize:i.size=size) (hby:i.bytes=bytes) (hzs:z.cells.size=size) (hsz:0<size)
  (v:Value) (n:Nat) (xs:List Value) (hown:w.ownsRow base e size v n xs)
  (a:Option Addr) (m c:Nat) (hno:a=none→m=0∧c=0) (news:List Value) (hl:news.length=m*size) (hnews:∀ ad,a=some ad→∀ j u,news[j]?=some u→w.cell? (ad.add j)=some u) (h1:∀ u ∈ news,u.oneCell'=true)
  (h63:n+m≤maxLen) (hbytes:(n+m)*bytes≤140737488355328) (hbase:base≤w.heap.size) :
  ∃ v' w',(Builtin.append_ #[t,t] ty #[v,.slice a m c]).run P w=.ok v' w'∧w'.ownsRow base e size v' (n+m) (xs++news)∧w.grownBy w' v.ownBlock∧(v'.ownBlock=v.ownBlock∨v'.ownBlock=some w.heap.size):=by
 cases a with
 | none =>
  obtain ⟨rfl,rfl⟩:=hno rfl
  obtain rfl:news=[]:=List.eq_nil_of_length_eq_zero (by rw [hl,Nat.zero_mul])
  exact ⟨v,w,run_append_owned_none (P:=P) (w:=w) base t ty e i size ht hi v n xs hown,by simpa using hown,⟨rfl,rfl,rfl,Nat.le_refl _,fun _ _ _=>rfl⟩,.inl rfl⟩
 | some ad =>
  obtain ⟨v',w',hrun,r1,r2,_,r4⟩:=run_append_own_at (P:=P) (w:=w) base t ty e i z size bytes ht hi hz hsize hby hzs hsz v n xs hown ad m c news hl (hnews ad rfl) h1 h63 hbytes hbase
  exact ⟨v',w',hrun,r1,r2,r4⟩
theorem Xg {P:Program} {w:World} {ops:Array Oper} {rest:List Oper} {o:Oper} {act:Act} {Q:Exit→Act→World→Prop} (hgd:o.guard=none) (s x:Operand) (t:TypeId)
  (ho:o.op=.call { callee:=.builtin .append,args:=#[s,x],argTypes:=#[t,t] })
  (base:Nat) (e:TypeId) (i:TypeInfo) (z:Value) (size bytes:Nat) (ht:P.underlying t=some (.slice e)) (hi:P.info? e=some i) (hz:i.zero=some z)
  (hsize:i.size=size) (hby:i.bytes=bytes) (hzs:z.cells.size=size) (hsz:0<size)
  (v:Value) (n:Nat) (xs:List Value) (hs:act.eval s=v) (hown:w.ownsRow base e size v n xs)
  (a:Option Addr) (m c:Nat) (hx:act.eval x=.slice a m c) (hno:a=none→m=0∧c=0) (news:List Value) (hl:news.length=m*size) (hnews:∀ ad,a=some ad→∀ j u,news[j]?=some u→w.cell? (ad.add j)=some u) (h1:∀ u ∈ news,u.oneCell'=true)
  (h63:n+m≤maxLen) (hbytes:(n+m)*bytes≤140737488355328) (hbase:base≤w.heap.size)
  (h:∀ v' w',w'.ownsRow base e size v' (n+m) (xs++news)→w.grownBy w' v.ownBlock→(v'.ownBlock=v.ownBlock∨v'.ownBlock=some w.heap.size)→wpList P ops Q rest (act.put o.dst v') w'):wpList P ops Q (o::rest) act w:=by
 refine wpList_plain hgd fun K hK=>?_
 obtain ⟨v',w',hrun,r1,r2,r4⟩:=Mb (P:=P) (w:=w) base t o.type e i z size bytes ht hi hz hsize hby hzs hsz v n xs hown a m c hno news hl hnews h1 h63 hbytes hbase
 unfold Oper.wp
 simp [execOp,ho,resolve,invoke,builtin,hs,hx,hrun,Result.andThen]
 exact hK _ _ (h v' w' r1 r2 r4)
theorem Yu {P:Program} {ops:Array Oper} {o:Oper} {act:Act} {w:World} {K:Act→World→Prop} {Q:Exit→Act→World→Prop} {E:Prop}
  (hg:o.guard=none) (s x:Operand) (t:TypeId) (hop:o.op=Op.call { callee:=Callee.builtin Builtin.append,args:=#[s,x],argTypes:=#[t,t] })
  (base:Nat) (e:TypeId) (i:TypeInfo) (z:Value) (size bytes:Nat) (ht:P.underlying t=some (.slice e)) (hi:P.info? e=some i) (hz:i.zero=some z)
  (hsize:i.size=size) (hby:i.bytes=bytes) (hzs:z.cells.size=size) (hsz:0<size)
  (v:Value) (n:Nat) (xs:List Value) (hs:act.eval s=v) (hown:w.ownsRow base e size v n xs)
  (a:Option Addr) (m c:Nat) (hx:act.eval x=.slice a m c) (hno:a=none→m=0∧c=0) (news:List Value) (hl:news.length=m*size) (hnews:∀ ad,a=some ad→∀ j u,news[j]?=some u→w.cell? (ad.add j)=some u) (h1:∀ u ∈ news,u.oneCell'=true)
  (h63:n+m≤maxLen) (hbytes:(n+m)*bytes≤140737488355328) (hbase:base≤w.heap.size)
  (hK:∀ v' w',w'.ownsRow base e size v' (n+m) (xs++news)→w.grownBy w' v.ownBlock→(v'.ownBlock=v.ownBlock∨v'.ownBlock=some w.heap.size)→K (act.put o.dst v') w') :
  if Region.wanted o (yielded ops act.tmps)=true then Oper.wp P o act w K Q else E:=by
 have hw:Region.wanted o (yielded ops act.tmps)=true:=by simp [Region.wanted,hg]
 rw [if_pos hw]
 obtain ⟨v',w',hrun,r1,r2,r4⟩:=Mb (P:=P) (w:=w) base t o.type e i z size bytes ht hi hz hsize hby hzs hsz v n xs hown a m c hno news hl hnews h1 h63 hbytes hbase
 subst hs
 unfold Oper.wp
 simp [execOp,hop,resolve,invoke,builtin,hx,hrun,Result.andThen]
 exact hK v' w' r1 r2 r4

abbrev EQ:=E3 × Sl2
def Z3 (L:List EQ):List Value:=L.flatMap fun x=>Yl x.1.1 x.2
theorem Se (L M:List EQ):Z3 (L++M)=Z3 L++Z3 M:=by simp [Z3]
theorem Yb (L:List EQ):(Z3 L).length=L.length*3:=by
 induction L with
 | nil=>rfl
 | cons x L ih =>
  have:Z3 (x::L)=Yl x.1.1 x.2++Z3 L:=rfl
  rw [this,List.length_append,ih]
  simp [Yl]
  omega
theorem XK:∀ {L:List EQ} {t j:Nat} {x:EQ},L[t]?=some x→j<3→(Z3 L)[t*3+j]?=(Yl x.1.1 x.2)[j]?
 | [],t,j,x,h,_=>by simp at h
 | y::L,0,j,x,h,hj=>by
  simp at h
  subst h
  have:Z3 (y::L)=Yl y.1.1 y.2++Z3 L:=rfl
  rw [this,Nat.zero_mul,Nat.zero_add,List.getElem?_append_left (by simp [Yl];omega)]
 | y::L,t+1,j,x,h,hj=>by
  simp at h
  have:Z3 (y::L)=Yl y.1.1 y.2++Z3 L:=rfl
  rw [this,List.getElem?_append_right (by simp [Yl];omega)]
  rw [show (t+1)*3+j - (Yl y.1.1 y.2).length=t*3+j by simp [Yl];omega]
  exact XK h hj
theorem Wh (L:List EQ):∀ u ∈ Z3 L,u.oneCell'=true:=by
 intro u hu
 obtain ⟨x,_,hx⟩:=List.mem_flatMap.1 hu
 simp [Yl] at hx
 rcases hx with rfl | rfl | rfl<;>rfl
def XC (w:World) (a:Option Addr) (n c:Nat) (L:List EQ):Prop:=
 L.length=n∧n≤c∧c≤maxLen∧(∀ x ∈ L,YL w x.2 x.1)∧(n=0∨∃ b off,a=some ⟨b,off,none⟩∧b<w.heap.size∧∀ j u,(Z3 L)[j]?=some u→w.cell? ⟨b,off+j,none⟩=some u)
theorem XC.below {w w':World} {a:Option Addr} {n c:Nat} {L:List EQ} (h:XC w a n c L) (hb:Below w.heap.size w w'):XC w' a n c L:=by
 obtain ⟨h1,h2,h3,h4,h5⟩:=h
 refine ⟨h1,h2,h3,fun x hx=>(h4 x hx).below hb,?_⟩
 rcases h5 with h0 | ⟨b,off,ha,hlt,hc⟩
 ·exact .inl h0
 exact .inr ⟨b,off,ha,by have:=hb.size;omega,fun j u hj=>by rw [hb.cell (p:=⟨b,_,none⟩) hlt];exact hc j u hj⟩
theorem QT {L:List EQ} {t:Nat} {x:EQ} (h:L[t]?=some x):(L.map (·.1)).getD t e3d=x.1:=by simp [List.getD,List.getElem?_map,h]
theorem XC.ents {w:World} {a:Option Addr} {n c:Nat} {L:List EQ} (h:XC w a n c L):XF w a n c (L.map (·.1)):=by
 obtain ⟨h1,h2,h3,h4,h5⟩:=h
 refine ⟨by simpa using h1,h2,h3,?_⟩
 rcases h5 with h0 | ⟨b,off,ha,hlt,hc⟩
 ·exact .inl h0
 refine .inr ⟨b,off,ha,hlt,fun t ht=>?_⟩
 have hx:L[t]?=some L[t]:=List.getElem?_eq_getElem (by omega)
 rw [QT hx]
 refine ⟨L[t].2,?_,?_,?_,h4 _ (List.getElem_mem _)⟩
 ·exact hc _ _ (by have:=XK hx (j:=0) (by omega);rw [Nat.add_zero] at this;rw [this];rfl)
 ·rw [Nat.add_assoc];exact hc _ _ (by rw [XK hx (j:=1) (by omega)];rfl)
 rw [Nat.add_assoc];exact hc _ _ (by rw [XK hx (j:=2) (by omega)];rfl)
theorem UO:∀ {L:List EQ} {j:Nat} {u:Value},(Z3 L)[j]?=some u→∃ t i x,j=t*3+i∧i<3∧L[t]?=some x∧(Yl x.1.1 x.2)[i]?=some u:=by
 intro L j u hj
 have hl:j<L.length*3:=by
  rw [← Yb]
  exact (List.getElem?_eq_some_iff.1 hj).1
 have hx:L[j / 3]?=some (L[j / 3]'(by omega)):=List.getElem?_eq_getElem (by omega)
 refine ⟨j / 3,j % 3,_,by omega,by omega,hx,?_⟩
 rw [← XK hx (by omega),show j / 3*3+j % 3=j by omega]
 exact hj
theorem XC.of_owns {w:World} {B:Nat} {a:Option Addr} {n c:Nat} {L:List EQ} (h:w.ownsRow B 109 3 (.slice a n c) n (Z3 L)) (hm:∀ x ∈ L,YL w x.2 x.1):XC w a n c L:=by
 have hl:=h.1
 rw [Yb] at hl
 have hl2:L.length=n:=by omega
 rcases h.2 with ⟨hv,h0⟩ | ⟨g,cap,cur,hv,_,hg,hn,hcm,_,_⟩
 ·injection hv with e1 e2 e3
  exact ⟨hl2,by omega,by unfold maxLen;omega,hm,.inl h0⟩
 injection hv with e1 e2 e3
 subst e1 e3
 refine ⟨hl2,hn,hcm,hm,.inr ⟨g,0,rfl,(h.lt g rfl).2,fun j u hj=>?_⟩⟩
 have hjl:j<n*3:=by
  have:=(List.getElem?_eq_some_iff.1 hj).1
  rw [Yb] at this
  omega
 rw [Nat.zero_add,h.cellAt j hjl]
 exact hj
theorem XC.news {w:World} {ad:Addr} {n c:Nat} {L:List EQ} (h:XC w (some ad) n c L):∀ j u,(Z3 L)[j]?=some u→w.cell? (ad.add j)=some u:=by
 obtain ⟨h1,_,_,_,h5⟩:=h
 intro j u hj
 rcases h5 with h0 | ⟨b,off,ha,_,hc⟩
 ·obtain rfl:L=[]:=List.eq_nil_of_length_eq_zero (h1.trans h0)
  simp [Z3] at hj
 cases ha
 have e:(⟨b,off,none⟩:Addr).add j=⟨b,off+j,none⟩:=by unfold Addr.add;split<;>simp_all
 rw [e]
 exact hc j u hj

theorem Y0.kept9 {w w':World} {B B' n:Nat} {vb vf v:Value} {e:E3} {cs:List Value} (h:Y0 w B vb vf e) (hg:w.grownBy w' v.ownBlock) (ho:w.ownsRow B' 109 3 v n cs):Y0 w' B vb vf e:=
 ⟨h.1.kept hg (Z0 h.1 ho (by decide)),h.2.kept hg (Z0 h.2 ho (by decide))⟩
theorem Yo.snoc9 {w w1 w2 w3:World} {B:Nat} {v v':Value} {es:List E3} {e:E3} {s:Sl2} {cs:List Value} (h:w.ownsRow B 109 3 v es.length cs) (hE:YA w B es.length cs es) (hb:Below w.heap.size w w1)
  (hn:Y0 w1 w.heap.size (.slice s.1.1 s.1.2.1 s.1.2.2) (.slice s.2.1 s.2.2.1 s.2.2.2) e) (hb2:Below w1.heap.size w1 w2) (hg:w2.grownBy w3 v.ownBlock) (ho:w3.ownsRow B 109 3 v' (es.length+1) (cs++Yl e.1 s)) (hB:B≤w.heap.size):Yo w3 B v' (es++[e]):=by
 have hl:=h.1
 have h2:w2.ownsRow B 109 3 v es.length cs:=Zp (Zp h hb) hb2
 have old:∀ t,t<es.length→(cs++Yl e.1 s)[t*3]?=cs[t*3]?∧(cs++Yl e.1 s).getD (t*3+1) undef=cs.getD (t*3+1) undef∧(cs++Yl e.1 s).getD (t*3+2) undef=cs.getD (t*3+2) undef:=fun t ht =>
  ⟨List.getElem?_append_left (by omega),by rw [List.getD,List.getD,List.getElem?_append_left (by omega)],by rw [List.getD,List.getD,List.getElem?_append_left (by omega)]⟩
 have n0:(cs++Yl e.1 s)[es.length*3]?=some (.string e.1):=by rw [← hl,List.getElem?_append_right (Nat.le_refl _),Nat.sub_self];rfl
 have n1:(cs++Yl e.1 s).getD (es.length*3+1) undef=.slice s.1.1 s.1.2.1 s.1.2.2:=by rw [List.getD,← hl,List.getElem?_append_right (by omega),Nat.add_sub_cancel_left];rfl
 have n2:(cs++Yl e.1 s).getD (es.length*3+2) undef=.slice s.2.1 s.2.2.1 s.2.2.2:=by rw [List.getD,← hl,List.getElem?_append_right (by omega),Nat.add_sub_cancel_left];rfl
 have eo:∀ t,t<es.length→(es++[e]).getD t e3d=es.getD t e3d:=fun t ht=>by rw [List.getD,List.getD,List.getElem?_append_left ht]
 have en:(es++[e]).getD es.length e3d=e:=by simp [List.getD]
 have lb:∀ x,(Value.slice s.1.1 s.1.2.1 s.1.2.2).ownBlock=some x→w.heap.size≤x:=fun x hx=>(hn.1.lt x hx).1
 have lf:∀ x,(Value.slice s.2.1 s.2.2.1 s.2.2.2).ownBlock=some x→w.heap.size≤x:=fun x hx=>(hn.2.lt x hx).1
 refine ⟨cs++Yl e.1 s,by simpa using ho,?_⟩
 rw [List.length_append,List.length_singleton]
 refine ⟨fun t ht=>?_,fun t t' ht ht' hne=>?_⟩
 ·by_cases e9:t=es.length
  ·subst e9
   rw [n0,n1,n2,en]
   exact ⟨rfl,((hn.lower hB).below hb2).kept9 hg h2⟩
  obtain ⟨o1,o2,o3⟩:=old t (by omega)
  rw [o1,o2,o3,eo t (by omega)]
  obtain ⟨k1,k2⟩:=hE.1 t (by omega)
  exact ⟨k1,((k2.below hb).below hb2).kept9 hg h2⟩
 by_cases e9:t=es.length
 ·subst e9
  obtain ⟨_,o2,o3⟩:=old t' (by omega)
  obtain ⟨_,k2⟩:=hE.1 t' (by omega)
  rw [n1,n2,o2,o3]
  exact ⟨(Wf (B':=0) k2.1 lb).2,(Wf (B':=0) k2.2 lf).2⟩
 obtain ⟨_,o2,o3⟩:=old t (by omega)
 by_cases e9':t'=es.length
 ·subst e9'
  obtain ⟨_,k2⟩:=hE.1 t (by omega)
  rw [n1,n2,o2,o3]
  exact ⟨(Wf (B':=0) k2.1 lb).1,(Wf (B':=0) k2.2 lf).1⟩
 obtain ⟨_,o2',o3'⟩:=old t' (by omega)
 rw [o2,o3,o2',o3']
 exact hE.2 t t' (by omega) (by omega) hne


def WH (x:Ending) (w':World) (B:Nat) (e:E3):Prop:=∃ s:Sl2,x=.returned (ZU e.1 s)∧Y0 w' B (.slice s.1.1 s.1.2.1 s.1.2.2) (.slice s.2.1 s.2.2.1 s.2.2.2) e
theorem WH.mk9 {w':World} {B:Nat} {e:E3} (s:Sl2) (h:Y0 w' B (.slice s.1.1 s.1.2.1 s.1.2.2) (.slice s.2.1 s.2.2.1 s.2.2.2) e):WH (.returned (ZU e.1 s)) w' B e:=⟨s,rfl,h⟩
theorem Xs {n c m:Nat} {a:Option Addr} {P:Prop} (hz:a=none→c=0) (h:n≤c):a=none→n=0∧c=0:=fun ha=>⟨by have:=hz ha;omega,hz ha⟩

theorem RB (e:E3) (s:Sl2) (w:World) (h:YL w s e) (h1:e.2.1.length≤1048576) (h2:e.2.2.length≤1048576) :
  Calls Tryz.prog 101 #[ZU e.1 s] w fun x w'=>WH x w' w.heap.size e∧Below w.heap.size w w':=by
 obtain ⟨i0,hi0,hz00,hz01,hz02⟩:=info_parts Y6
 obtain ⟨i1,hi1,hz10,hz11,hz12⟩:=info_parts Xp
 obtain ⟨⟨_,z1,z2⟩,hB,hF,_⟩:=h
 have l1:=hB.1
 have l2:=hF.1
 have hb1:=hB.2.1
 have hb2:=hF.2.1
 obtain ⟨ek,eb,ez⟩:=e
 obtain ⟨⟨a1,n1,c1⟩,⟨a2,n2,c2⟩⟩:=s
 unfold ZU
 simp only at z1 z2 hB hF l1 l2 h1 h2 hb1 hb2 ⊢
 have hm1:n1≤1048576:=by omega
 have hm2:n2≤1048576:=by omega
 subst l1
 subst l2
 have no1:=Xs (m:=0) (P:=True) z1 hb1
 have no2:=Xs (m:=0) (P:=True) z2 hb2
 have bw:Below w.heap.size w ((w.alloc (.cells #[.string ek,.slice a1 eb.length c1,.slice a2 ez.length c2] 109)).alloc (.cells #[.string ⟨#[]⟩,.slice none 0 0,.slice none 0 0] 109)):=by go_grown
 have pX:Blk ((w.alloc (.cells #[.string ek,.slice a1 eb.length c1,.slice a2 ez.length c2] 109)).alloc (.cells #[.string ⟨#[]⟩,.slice none 0 0,.slice none 0 0] 109)) w.heap.size 109 [.string ek,.slice a1 eb.length c1,.slice a2 ez.length c2]:=Zf _ (Zh _ _ _ rfl)
 have pR:Blk ((w.alloc (.cells #[.string ek,.slice a1 eb.length c1,.slice a2 ez.length c2] 109)).alloc (.cells #[.string ⟨#[]⟩,.slice none 0 0,.slice none 0 0] 109)) (w.heap.size+1) 109 [.string ⟨#[]⟩,.slice none 0 0,.slice none 0 0]:=Zh _ _ _ (by simp)
 go_enter Tryz.func101,Tryz.ntmps101
 have hV:=pR.lt
 have be:Below ((w.alloc (.cells #[.string ek,.slice a1 eb.length c1,.slice a2 ez.length c2] 109)).alloc (.cells #[.string ⟨#[]⟩,.slice none 0 0,.slice none 0 0] 109)).heap.size ((w.alloc (.cells #[.string ek,.slice a1 eb.length c1,.slice a2 ez.length c2] 109)).alloc (.cells #[.string ⟨#[]⟩,.slice none 0 0,.slice none 0 0] 109)) (((w.alloc (.cells #[.string ek,.slice a1 eb.length c1,.slice a2 ez.length c2] 109)).alloc (.cells #[.string ⟨#[]⟩,.slice none 0 0,.slice none 0 0] 109)).alloc (.cells #[] 90)):=by go_grown
 have qe:(((w.alloc (.cells #[.string ek,.slice a1 eb.length c1,.slice a2 ez.length c2] 109)).alloc (.cells #[.string ⟨#[]⟩,.slice none 0 0,.slice none 0 0] 109)).alloc (.cells #[] 90)).ownsRow (w.heap.size+2) 90 3 (.slice (some ⟨w.heap.size+1+1,0,none⟩) 0 0) 0 []:=by
  have h9:=Xu ((w.alloc (.cells #[.string ek,.slice a1 eb.length c1,.slice a2 ez.length c2] 109)).alloc (.cells #[.string ⟨#[]⟩,.slice none 0 0,.slice none 0 0] 109)) 90 3 (w.heap.size+2) (by omega)
  simpa using h9
 have bE:=Zm bw be
 have xE:=pX.below be
 have rE:=pR.below be
 have yE:=xE.cell 1
 have hsE:w.heap.size+2≤(((w.alloc (.cells #[.string ek,.slice a1 eb.length c1,.slice a2 ez.length c2] 109)).alloc (.cells #[.string ⟨#[]⟩,.slice none 0 0,.slice none 0 0] 109)).alloc (.cells #[] 90)).heap.size:=by have:=be.size;omega
 simp only [List.getElem?_cons_zero,List.getElem?_cons_succ] at yE
 clear be hV
 go_wp2_with (at_builtin;refine Xg rfl _ _ 29 rfl (w.heap.size+2) 90 i0 (.agg #[.int .i64 0,.int .i64 0,.int .i64 0]) 3 24 Tryz.underlying29 hi0 hz00 hz01 hz02 rfl (by decide) _ _ _ rfl qe a1 eb.length c1 rfl no1 (Zk eb) (by rw [Zr]) (fun ad ha=>by subst ha;exact TV (hB.below bE)) (ZY eb) (by unfold maxLen;omega) (by omega) hsE ?_)
 intro v9 V0 hown hgrow _
 have hgB:∀ g,(Value.slice (some ⟨w.heap.size+1+1,0,none⟩) 0 0).ownBlock=some g→w.heap.size+2≤g:=fun g hg=>(qe.lt g hg).1
 replace bE:=bE.grown hgrow (by omega) (fun g hg=>by have:=hgB g hg;omega)
 replace xE:=xE.kept hgrow (fun e9=>by have:=hgB _ e9;omega)
 replace rE:=rE.kept hgrow (fun e9=>by have:=hgB _ e9;omega)
 have qN:V0.ownsRow (w.heap.size+2) 90 3 v9 eb.length (Zk eb):=by simpa using hown
 obtain ⟨va0,vc0,rfl⟩:=ZH qN
 clear hown hgrow hgB qe yE hsE
 have yz:=xE.cell 1
 have fz:=xE.frozen 1
 simp only [List.getElem?_cons_zero,List.getElem?_cons_succ] at yz
 clear bw pX pR 
 have bw:=bE.setCell (p:=⟨w.heap.size,1,none⟩) (Nat.le_refl _) (.slice va0 eb.length vc0)
 have pR:=rE.off ⟨w.heap.size,1,none⟩ (.slice va0 eb.length vc0) (by simp)
 have pX:=xE.set 1 (.slice va0 eb.length vc0)
 simp only [List.set_cons_zero,List.set_cons_succ] at pX
 have qB:=ownsRow_setCell_below qN (a:=⟨w.heap.size,1,none⟩) (show w.heap.size<w.heap.size+2 by omega) (.slice va0 eb.length vc0)
 clear bE xE rE qN 
 have hV:=pR.lt
 have be:Below (V0.setCell ⟨w.heap.size,1,none⟩ (.slice va0 eb.length vc0)).heap.size (V0.setCell ⟨w.heap.size,1,none⟩ (.slice va0 eb.length vc0)) ((V0.setCell ⟨w.heap.size,1,none⟩ (.slice va0 eb.length vc0)).alloc (.cells #[] 3)):=by go_grown
 have qe:((V0.setCell ⟨w.heap.size,1,none⟩ (.slice va0 eb.length vc0)).alloc (.cells #[] 3)).ownsRow (w.heap.size+2) 3 1 (.slice (some ⟨V0.heap.size,0,none⟩) 0 0) 0 []:=by
  have h9:=Xu (V0.setCell ⟨w.heap.size,1,none⟩ (.slice va0 eb.length vc0)) 3 1 (w.heap.size+2) (by omega)
  simpa using h9
 have bE:=Zm bw be
 have xE:=pX.below be
 have rE:=pR.below be
 have bqE:=Zp qB be
 have yE:=xE.cell 2
 have hsE:w.heap.size+2≤((V0.setCell ⟨w.heap.size,1,none⟩ (.slice va0 eb.length vc0)).alloc (.cells #[] 3)).heap.size:=by have:=be.size;omega
 simp only [List.getElem?_cons_zero,List.getElem?_cons_succ] at yE
 clear be hV
 go_wp2_with (at_builtin;refine Xg rfl _ _ 72 rfl (w.heap.size+2) 3 i1 (.int .i64 0) 1 8 Tryz.underlying72 hi1 hz10 hz11 hz12 rfl (by decide) _ _ _ rfl qe a2 ez.length c2 rfl no2 (ez.map (Value.int .i64)) (by rw [List.length_map,Nat.mul_one]) (fun ad ha=>by subst ha;exact Hg (hF.below bE)) (TY ez) (by unfold maxLen;omega) (by omega) hsE ?_)
 intro v9 V1 hown hgrow _
 have hgB:∀ g,(Value.slice (some ⟨V0.heap.size,0,none⟩) 0 0).ownBlock=some g→w.heap.size+2≤g:=fun g hg=>(qe.lt g hg).1
 replace bE:=bE.grown hgrow (by omega) (fun g hg=>by have:=hgB g hg;omega)
 replace xE:=xE.kept hgrow (fun e9=>by have:=hgB _ e9;omega)
 replace rE:=rE.kept hgrow (fun e9=>by have:=hgB _ e9;omega)
 replace bqE:=bqE.kept hgrow (Z0 bqE qe (by decide))
 have qN:V1.ownsRow (w.heap.size+2) 3 1 v9 ez.length (ez.map (Value.int .i64)):=by simpa using hown
 obtain ⟨va1,vc1,rfl⟩:=ZH qN
 clear hown hgrow hgB qe yE hsE
 have yz:=xE.cell 2
 have fz:=xE.frozen 2
 simp only [List.getElem?_cons_zero,List.getElem?_cons_succ] at yz
 clear bw pX pR qB
 have bw:=bE.setCell (p:=⟨w.heap.size,2,none⟩) (Nat.le_refl _) (.slice va1 ez.length vc1)
 have pR:=rE.off ⟨w.heap.size,2,none⟩ (.slice va1 ez.length vc1) (by simp)
 have pX:=xE.set 2 (.slice va1 ez.length vc1)
 simp only [List.set_cons_zero,List.set_cons_succ] at pX
 have qF:=ownsRow_setCell_below qN (a:=⟨w.heap.size,2,none⟩) (show w.heap.size<w.heap.size+2 by omega) (.slice va1 ez.length vc1)
 have qB:=ownsRow_setCell_below bqE (a:=⟨w.heap.size,2,none⟩) (show w.heap.size<w.heap.size+2 by omega) (.slice va1 ez.length vc1)
 clear bE xE rE qN bqE
 have o0:=pX.cell 0
 have o1:=pX.cell 1
 have o2:=pX.cell 2
 have r0:=pR.cell 0
 have r1:=pR.cell 1
 have r2:=pR.cell 2
 have fr0:=pR.frozen 0
 have fr1:=pR.frozen 1
 have fr2:=pR.frozen 2
 simp only [List.getElem?_cons_zero,List.getElem?_cons_succ] at o0 o1 o2 r0 r1 r2
 have pZ:=((pR.set 0 (.string ek)).set 1 (.slice va0 eb.length vc0)).set 2 (.slice va1 ez.length vc1)
 simp only [List.set_cons_zero,List.set_cons_succ] at pZ
 have z0:=pZ.cell 0
 have zz1:=pZ.cell 1
 have zz2:=pZ.cell 2
 simp only [List.getElem?_cons_zero,List.getElem?_cons_succ] at z0 zz1 zz2
 have hle:w.heap.size≤w.heap.size+1:=by omega
 have hlt9:w.heap.size+1<w.heap.size+2:=by omega
 have bz:=((bw.setCell (p:=⟨w.heap.size+1,0,none⟩) hle (.string ek)).setCell (p:=⟨w.heap.size+1,1,none⟩) hle (.slice va0 eb.length vc0)).setCell (p:=⟨w.heap.size+1,2,none⟩) hle (.slice va1 ez.length vc1)
 replace qB:=ownsRow_setCell_below (ownsRow_setCell_below (ownsRow_setCell_below qB (a:=⟨w.heap.size+1,0,none⟩) hlt9 (.string ek)) (a:=⟨w.heap.size+1,1,none⟩) hlt9 (.slice va0 eb.length vc0)) (a:=⟨w.heap.size+1,2,none⟩) hlt9 (.slice va1 ez.length vc1)
 replace qF:=ownsRow_setCell_below (ownsRow_setCell_below (ownsRow_setCell_below qF (a:=⟨w.heap.size+1,0,none⟩) hlt9 (.string ek)) (a:=⟨w.heap.size+1,1,none⟩) hlt9 (.slice va0 eb.length vc0)) (a:=⟨w.heap.size+1,2,none⟩) hlt9 (.slice va1 ez.length vc1)
 have qB9:=ZT qB (show w.heap.size≤w.heap.size+2 by omega)
 have qF9:=ZT qF (show w.heap.size≤w.heap.size+2 by omega)
 clear pR pZ pX bw qB qF
 go_wp2
 refine bodyPost_ret (by simp [results,Tryz.results101,go_sem,z0,zz1,zz2];try rfl) rfl ?_
 exact ⟨WH.mk9 (e:=(ek,eb,ez)) ((va0,eb.length,vc0),(va1,ez.length,vc1)) ⟨qB9,qF9⟩,bz⟩
end Go.Proofs.YtmhlokahmblboaaGreatDoor
