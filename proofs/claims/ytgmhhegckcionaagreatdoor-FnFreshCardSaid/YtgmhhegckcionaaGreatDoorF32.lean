/-
  Joined: Ent3, Ent7, Ent8, Ent9, EsO, EntD, RqE, OfBk, StsS.
-/
import Derived.Test.YtgmhhegckcionaaGreatDoorF31

namespace Go.Proofs.YtgmhhegckcionaaGreatDoor
set_option maxRecDepth 100000
set_option maxHeartbeats 16000000
open Go.RowKit
set_option linter.unusedVariables false
set_option linter.unusedSimpArgs false

theorem T5:(Tryz.prog.info? 45).map (fun i=>(i.zero,i.size,i.bytes))=some (some (.agg #[.string ⟨#[]⟩,.slice none 0 0,.slice none 0 0]),3,64):=by kernel_rfl

def Dz (u v:Value):Prop:=u.ownBlock=none∨u.ownBlock≠v.ownBlock
def GY (w:World) (B k:Nat) (cs:List Value) (es:List E3):Prop:=
 (∀ t,t<k→cs[t*3]?=some (.string (es.getD t e3d).1)∧Wm w B (cs.getD (t*3+1) undef) (cs.getD (t*3+2) undef) (es.getD t e3d)) ∧
 ∀ t t',t<k→t'<k→t≠t'→Dz (cs.getD (t*3+1) undef) (cs.getD (t'*3+1) undef)∧Dz (cs.getD (t*3+2) undef) (cs.getD (t'*3+2) undef)
theorem Si {w:World} {B B' e s n:Nat} {u v:Value} {xs:List Value} (hu:w.ownsRow B e s u n xs) (hv:∀ x,v.ownBlock=some x→w.heap.size≤x):Dz u v∧Dz v u:=by
 constructor
 ·rcases hb:u.ownBlock with _ | x
  ·exact .inl hb
  refine .inr ?_
  rw [hb]
  intro h
  have:=(hu.lt x hb).2
  have:=hv x h.symm
  omega
 rcases hb:v.ownBlock with _ | x
 ·exact .inl hb
 refine .inr ?_
 rw [hb]
 intro h
 have:=(hu.lt x h.symm).2
 have:=hv x hb
 omega
def Wi (w:World) (B:Nat) (v:Value) (es:List E3):Prop:=∃ cs,w.ownsRow B 45 3 v es.length cs∧GY w B es.length cs es
theorem Wi.ents {w:World} {B:Nat} {a:Option Addr} {len cap:Nat} {es:List E3} (h:Wi w B (.slice a len cap) es) (hf:∀ e ∈ es,e.fits):Y6 w a len cap es:=by
 obtain ⟨cs,h1,h2⟩:=h
 rcases h1.2 with ⟨hv,h0⟩ | ⟨g,cap',cur,hv,_,hh,hn,hcm,_⟩
 ·injection hv with e1 e2 e3
  subst e1 e2 e3
  obtain rfl:es=[]:=List.eq_nil_of_length_eq_zero h0
  exact ⟨rfl,Nat.le_refl _,by unfold maxLen;omega,.inl rfl⟩
 injection hv with e1 e2 e3
 subst e1 e2 e3
 have hl:=h1.1
 refine ⟨rfl,hn,hcm,.inr ⟨g,0,rfl,(h1.lt g rfl).2,fun t ht=>?_⟩⟩
 have hc:=fun j (hj:j<es.length*3)=>h1.cellAt j hj
 obtain ⟨k1,k2⟩:=h2.1 t ht
 obtain ⟨s,e1,e2⟩:=k2.slices
 have hg:∀ j,j<cs.length→cs[j]?=some (cs.getD j undef):=fun j hj=>by simp [List.getD,List.getElem?_eq_getElem hj]
 refine ⟨s,?_,?_,?_,?_⟩
 ·rw [Nat.zero_add,hc _ (by omega)];exact k1
 ·rw [Nat.zero_add,hc _ (by omega),hg _ (by omega),e1]
 ·rw [Nat.zero_add,hc _ (by omega),hg _ (by omega),e2]
 rw [e1,e2] at k2
 exact k2.mem (hf _ (by simp [List.getD,List.getElem?_eq_getElem ht]))
theorem Wm.low {w:World} {B:Nat} {vb vf:Value} {e:E3} (h:Wm w B vb vf e) {p:Addr} (hp:p.block<B) (u:Value):Wm (w.setCell p u) B vb vf e:=⟨ownsRow_setCell_below h.1 hp u,ownsRow_setCell_below h.2 hp u⟩
theorem Wi.low {w:World} {B:Nat} {v:Value} {es:List E3} (h:Wi w B v es) {p:Addr} (hp:p.block<B) (u:Value):Wi (w.setCell p u) B v es:=by
 obtain ⟨cs,h1,h2,h3⟩:=h
 exact ⟨cs,ownsRow_setCell_below h1 hp u,fun t ht=>⟨(h2 t ht).1,(h2 t ht).2.low hp u⟩,h3⟩


theorem UF {w:World} {B e s n g t:Nat} {v:Value} {xs cs:List Value} (h:w.ownsRow B e s v n xs) (hB:Blk w g t cs) (he:e≠t):v.ownBlock≠some g:=by
 rcases h.2 with ⟨rfl,_⟩ | ⟨g',cap,cur,rfl,_,hh,_⟩
 ·simp [Value.ownBlock]
 simp only [Value.ownBlock,ne_eq,Option.some.injEq]
 rintro rfl
 unfold Blk at hB
 rw [hh] at hB
 simp at hB
 exact he hB.2


theorem Wi.nil9 (w:World) (B:Nat):Wi w B (.slice none 0 0) []:=⟨[],World.ownsRow_nil _ _ _ _,fun t ht=>by simp at ht,fun t _ ht=>by simp at ht⟩
theorem Wi.lower {w:World} {B B':Nat} {v:Value} {es:List E3} (h:Wi w B v es) (hB:B'≤B):Wi w B' v es:=by
 obtain ⟨cs,h1,h2,h3⟩:=h
 exact ⟨cs,Yz h1 hB,fun t ht=>⟨(h2 t ht).1,(h2 t ht).2.lower hB⟩,h3⟩
theorem Wi.slice9 {w:World} {B:Nat} {v:Value} {es:List E3} (h:Wi w B v es):∃ a c,v=.slice a es.length c:=by
 obtain ⟨cs,h1,_⟩:=h
 exact ZY h1


theorem Rm {w:World} {ad:Addr} {n c:Nat} {xs:List I3} (h:Zr w (some ad) n c xs):∀ j u,(Zn xs)[j]?=some u→w.cell? (ad.add j)=some u:=by
 have h':=h
 obtain ⟨hl,_,_,_,hc⟩:=h
 rcases hc with h0 | ⟨b,off,ha,_⟩
 ·obtain rfl:xs=[]:=List.eq_nil_of_length_eq_zero (hl.trans h0)
  intro j u hj
  simp [Zn] at hj
 cases ha
 exact Yb h'
theorem FO {w:World} {ad:Addr} {n c:Nat} {xs:List Int} (h:Yn .i64 w (some ad) n c xs):∀ j u,(xs.map (Value.int .i64))[j]?=some u→w.cell? (ad.add j)=some u:=by
 have h':=h
 obtain ⟨hl,_,_,hc⟩:=h
 rcases hc with h0 | ⟨b,off,ha,_⟩
 ·obtain rfl:xs=[]:=List.eq_nil_of_length_eq_zero (hl.trans h0)
  intro j u hj
  simp at hj
 cases ha
 exact TT h'

theorem Lw {P:Program} {w:World} (base:Nat) (t ty e:TypeId) (i:TypeInfo) (z:Value) (size bytes:Nat) (ht:P.underlying t=some (.slice e)) (hi:P.info? e=some i) (hz:i.zero=some z)
  (hsize:i.size=size) (hby:i.bytes=bytes) (hzs:z.cells.size=size) (hsz:0<size)
  (v:Value) (n:Nat) (xs:List Value) (hown:w.ownsRow base e size v n xs)
  (a:Option Addr) (m c:Nat) (hno:a=none→m=0∧c=0) (news:List Value) (hl:news.length=m*size) (hnews:∀ ad,a=some ad→∀ j u,news[j]?=some u→w.cell? (ad.add j)=some u) (h1:∀ u ∈ news,u.oneCell'=true)
  (h63:n+m≤maxLen) (hbytes:(n+m)*bytes≤140737488355328) (hbase:base≤w.heap.size) :
  ∃ v' w',(Builtin.append_ #[t,t] ty #[v,.slice a m c]).run P w=.ok v' w'∧w'.ownsRow base e size v' (n+m) (xs++news)∧w.grownBy w' v.ownBlock∧(v'.ownBlock=v.ownBlock∨v'.ownBlock=some w.heap.size):=by
 cases a with
 | none =>
  obtain ⟨rfl,rfl⟩:=hno rfl
  obtain rfl:news=[]:=List.eq_nil_of_length_eq_zero (by rw [hl,Nat.zero_mul])
  exact ⟨v,w,run_append_owned_none (P:=P) (w:=w) base t ty e i size ht hi v n xs hown,by simpa using hown,⟨rfl,rfl,rfl,Nat.le_refl _,fun _ _ _=>rfl⟩,.inl rfl⟩
 | some ad =>
  obtain ⟨v',w',hrun,r1,r2,_,r4⟩:=run_append_own_at (P:=P) (w:=w) base t ty e i z size bytes ht hi hz hsize hby hzs hsz v n xs hown ad m c news hl (hnews ad rfl) h1 h63 hbytes hbase
  exact ⟨v',w',hrun,r1,r2,r4⟩
theorem XH {P:Program} {w:World} {ops:Array Oper} {rest:List Oper} {o:Oper} {act:Act} {Q:Exit→Act→World→Prop} (hgd:o.guard=none) (s x:Operand) (t:TypeId)
  (ho:o.op=.call { callee:=.builtin .append,args:=#[s,x],argTypes:=#[t,t] })
  (base:Nat) (e:TypeId) (i:TypeInfo) (z:Value) (size bytes:Nat) (ht:P.underlying t=some (.slice e)) (hi:P.info? e=some i) (hz:i.zero=some z)
  (hsize:i.size=size) (hby:i.bytes=bytes) (hzs:z.cells.size=size) (hsz:0<size)
  (v:Value) (n:Nat) (xs:List Value) (hs:act.eval s=v) (hown:w.ownsRow base e size v n xs)
  (a:Option Addr) (m c:Nat) (hx:act.eval x=.slice a m c) (hno:a=none→m=0∧c=0) (news:List Value) (hl:news.length=m*size) (hnews:∀ ad,a=some ad→∀ j u,news[j]?=some u→w.cell? (ad.add j)=some u) (h1:∀ u ∈ news,u.oneCell'=true)
  (h63:n+m≤maxLen) (hbytes:(n+m)*bytes≤140737488355328) (hbase:base≤w.heap.size)
  (h:∀ v' w',w'.ownsRow base e size v' (n+m) (xs++news)→w.grownBy w' v.ownBlock→(v'.ownBlock=v.ownBlock∨v'.ownBlock=some w.heap.size)→wpList P ops Q rest (act.put o.dst v') w'):wpList P ops Q (o::rest) act w:=by
 refine wpList_plain hgd fun K hK=>?_
 obtain ⟨v',w',hrun,r1,r2,r4⟩:=Lw (P:=P) (w:=w) base t o.type e i z size bytes ht hi hz hsize hby hzs hsz v n xs hown a m c hno news hl hnews h1 h63 hbytes hbase
 unfold Oper.wp
 simp [execOp,ho,resolve,invoke,builtin,hs,hx,hrun,Result.andThen]
 exact hK _ _ (h v' w' r1 r2 r4)
theorem YN {P:Program} {ops:Array Oper} {o:Oper} {act:Act} {w:World} {K:Act→World→Prop} {Q:Exit→Act→World→Prop} {E:Prop}
  (hg:o.guard=none) (s x:Operand) (t:TypeId) (hop:o.op=Op.call { callee:=Callee.builtin Builtin.append,args:=#[s,x],argTypes:=#[t,t] })
  (base:Nat) (e:TypeId) (i:TypeInfo) (z:Value) (size bytes:Nat) (ht:P.underlying t=some (.slice e)) (hi:P.info? e=some i) (hz:i.zero=some z)
  (hsize:i.size=size) (hby:i.bytes=bytes) (hzs:z.cells.size=size) (hsz:0<size)
  (v:Value) (n:Nat) (xs:List Value) (hs:act.eval s=v) (hown:w.ownsRow base e size v n xs)
  (a:Option Addr) (m c:Nat) (hx:act.eval x=.slice a m c) (hno:a=none→m=0∧c=0) (news:List Value) (hl:news.length=m*size) (hnews:∀ ad,a=some ad→∀ j u,news[j]?=some u→w.cell? (ad.add j)=some u) (h1:∀ u ∈ news,u.oneCell'=true)
  (h63:n+m≤maxLen) (hbytes:(n+m)*bytes≤140737488355328) (hbase:base≤w.heap.size)
  (hK:∀ v' w',w'.ownsRow base e size v' (n+m) (xs++news)→w.grownBy w' v.ownBlock→(v'.ownBlock=v.ownBlock∨v'.ownBlock=some w.heap.size)→K (act.put o.dst v') w') :
  if Region.wanted o (yielded ops act.tmps)=true then Oper.wp P o act w K Q else E:=by
 have hw:Region.wanted o (yielded ops act.tmps)=true:=by simp [Region.wanted,hg]
 rw [if_pos hw]
 obtain ⟨v',w',hrun,r1,r2,r4⟩:=Lw (P:=P) (w:=w) base t o.type e i z size bytes ht hi hz hsize hby hzs hsz v n xs hown a m c hno news hl hnews h1 h63 hbytes hbase
 subst hs
 unfold Oper.wp
 simp [execOp,hop,resolve,invoke,builtin,hx,hrun,Result.andThen]
 exact hK v' w' r1 r2 r4

abbrev EQ:=E3 × Sl2
def Yq (L:List EQ):List Value:=L.flatMap fun x=>YI x.1.1 x.2
theorem RB (L M:List EQ):Yq (L++M)=Yq L++Yq M:=by simp [Yq]
theorem Yy (L:List EQ):(Yq L).length=L.length*3:=by
 induction L with
 | nil=>rfl
 | cons x L ih =>
  have:Yq (x::L)=YI x.1.1 x.2++Yq L:=rfl
  rw [this,List.length_append,ih]
  simp [YI]
  omega
theorem VL:∀ {L:List EQ} {t j:Nat} {x:EQ},L[t]?=some x→j<3→(Yq L)[t*3+j]?=(YI x.1.1 x.2)[j]?
 | [],t,j,x,h,_=>by simp at h
 | y::L,0,j,x,h,hj=>by
  simp at h
  subst h
  have:Yq (y::L)=YI y.1.1 y.2++Yq L:=rfl
  rw [this,Nat.zero_mul,Nat.zero_add,List.getElem?_append_left (by simp [YI];omega)]
 | y::L,t+1,j,x,h,hj=>by
  simp at h
  have:Yq (y::L)=YI y.1.1 y.2++Yq L:=rfl
  rw [this,List.getElem?_append_right (by simp [YI];omega)]
  rw [show (t+1)*3+j - (YI y.1.1 y.2).length=t*3+j by simp [YI];omega]
  exact VL h hj
theorem WP (L:List EQ):∀ u ∈ Yq L,u.oneCell'=true:=by
 intro u hu
 obtain ⟨x,_,hx⟩:=List.mem_flatMap.1 hu
 simp [YI] at hx
 rcases hx with rfl | rfl | rfl<;>rfl
def Wv (w:World) (a:Option Addr) (n c:Nat) (L:List EQ):Prop:=
 L.length=n∧n≤c∧c≤maxLen∧(∀ x ∈ L,YK w x.2 x.1)∧(n=0∨∃ b off,a=some ⟨b,off,none⟩∧b<w.heap.size∧∀ j u,(Yq L)[j]?=some u→w.cell? ⟨b,off+j,none⟩=some u)
theorem Wv.below {w w':World} {a:Option Addr} {n c:Nat} {L:List EQ} (h:Wv w a n c L) (hb:Below w.heap.size w w'):Wv w' a n c L:=by
 obtain ⟨h1,h2,h3,h4,h5⟩:=h
 refine ⟨h1,h2,h3,fun x hx=>(h4 x hx).below hb,?_⟩
 rcases h5 with h0 | ⟨b,off,ha,hlt,hc⟩
 ·exact .inl h0
 exact .inr ⟨b,off,ha,by have:=hb.size;omega,fun j u hj=>by rw [hb.cell (p:=⟨b,_,none⟩) hlt];exact hc j u hj⟩
theorem Hc {L:List EQ} {t:Nat} {x:EQ} (h:L[t]?=some x):(L.map (·.1)).getD t e3d=x.1:=by simp [List.getD,List.getElem?_map,h]
theorem Wv.ents {w:World} {a:Option Addr} {n c:Nat} {L:List EQ} (h:Wv w a n c L):Y6 w a n c (L.map (·.1)):=by
 obtain ⟨h1,h2,h3,h4,h5⟩:=h
 refine ⟨by simpa using h1,h2,h3,?_⟩
 rcases h5 with h0 | ⟨b,off,ha,hlt,hc⟩
 ·exact .inl h0
 refine .inr ⟨b,off,ha,hlt,fun t ht=>?_⟩
 have hx:L[t]?=some L[t]:=List.getElem?_eq_getElem (by omega)
 rw [Hc hx]
 refine ⟨L[t].2,?_,?_,?_,h4 _ (List.getElem_mem _)⟩
 ·exact hc _ _ (by have:=VL hx (j:=0) (by omega);rw [Nat.add_zero] at this;rw [this];rfl)
 ·rw [Nat.add_assoc];exact hc _ _ (by rw [VL hx (j:=1) (by omega)];rfl)
 rw [Nat.add_assoc];exact hc _ _ (by rw [VL hx (j:=2) (by omega)];rfl)
theorem Qp:∀ {L:List EQ} {j:Nat} {u:Value},(Yq L)[j]?=some u→∃ t i x,j=t*3+i∧i<3∧L[t]?=some x∧(YI x.1.1 x.2)[i]?=some u:=by
 intro L j u hj
 have hl:j<L.length*3:=by
  rw [← Yy]
  exact (List.getElem?_eq_some_iff.1 hj).1
 have hx:L[j / 3]?=some (L[j / 3]'(by omega)):=List.getElem?_eq_getElem (by omega)
 refine ⟨j / 3,j % 3,_,by omega,by omega,hx,?_⟩
 rw [← VL hx (by omega),show j / 3*3+j % 3=j by omega]
 exact hj
theorem Y6.q {w:World} {a:Option Addr} {n c:Nat} {es:List E3} (h:Y6 w a n c es):∃ L:List EQ,L.map (·.1)=es∧Wv w a n c L:=by
 obtain ⟨h1,h2,h3,h4⟩:=h
 rcases h4 with h0 | ⟨b,off,ha,hlt,hc⟩
 ·obtain rfl:es=[]:=List.eq_nil_of_length_eq_zero (h1.trans h0)
  exact ⟨[],rfl,by simpa using h1,h2,h3,by simp,.inl h0⟩
 obtain ⟨Y,hY⟩:=Go.Deep.choose_lt (α:=Sl2) (n:=n) hc
 have hat:∀ t,t<n→((List.range n).map fun i=>((es.getD i e3d,Y i):EQ))[t]?=some (es.getD t e3d,Y t):=fun t ht=>by simp [List.getElem?_map,List.getElem?_range ht]
 refine ⟨(List.range n).map fun i=>(es.getD i e3d,Y i),?_,by simp,h2,h3,?_,.inr ⟨b,off,ha,hlt,fun j u hj=>?_⟩⟩
 ·apply List.ext_getElem?
  intro t
  by_cases ht:t<n
  ·rw [List.getElem?_map,hat t ht]
   simp [List.getD,List.getElem?_eq_getElem (show t<es.length by omega)]
  rw [List.getElem?_eq_none (by simp;omega),List.getElem?_eq_none (by omega)]
 ·intro x hx
  obtain ⟨i,hi,rfl⟩:=List.mem_map.1 hx
  exact (hY i (List.mem_range.1 hi)).2.2.2
 obtain ⟨t,i,x,rfl,hi,hx,hu⟩:=Qp hj
 have ht:t<n:=by
  have:=(List.getElem?_eq_some_iff.1 hx).1
  simpa using this
 rw [hat t ht] at hx
 cases hx
 obtain ⟨c0,c1,c2,_⟩:=hY t ht
 match i,hi with
 | 0,_=>simp [YI] at hu;rw [← hu];exact c0
 | 1,_=>simp [YI] at hu;rw [← hu,← Nat.add_assoc];exact c1
 | 2,_=>simp [YI] at hu;rw [← hu,← Nat.add_assoc];exact c2
theorem Wv.of_owns {w:World} {B:Nat} {a:Option Addr} {n c:Nat} {L:List EQ} (h:w.ownsRow B 45 3 (.slice a n c) n (Yq L)) (hm:∀ x ∈ L,YK w x.2 x.1):Wv w a n c L:=by
 have hl:=h.1
 rw [Yy] at hl
 have hl2:L.length=n:=by omega
 rcases h.2 with ⟨hv,h0⟩ | ⟨g,cap,cur,hv,_,hg,hn,hcm,_,_⟩
 ·injection hv with e1 e2 e3
  exact ⟨hl2,by omega,by unfold maxLen;omega,hm,.inl h0⟩
 injection hv with e1 e2 e3
 subst e1 e3
 refine ⟨hl2,hn,hcm,hm,.inr ⟨g,0,rfl,(h.lt g rfl).2,fun j u hj=>?_⟩⟩
 have hjl:j<n*3:=by
  have:=(List.getElem?_eq_some_iff.1 hj).1
  rw [Yy] at this
  omega
 rw [Nat.zero_add,h.cellAt j hjl]
 exact hj
theorem Wv.news {w:World} {ad:Addr} {n c:Nat} {L:List EQ} (h:Wv w (some ad) n c L):∀ j u,(Yq L)[j]?=some u→w.cell? (ad.add j)=some u:=by
 obtain ⟨h1,_,_,_,h5⟩:=h
 intro j u hj
 rcases h5 with h0 | ⟨b,off,ha,_,hc⟩
 ·obtain rfl:L=[]:=List.eq_nil_of_length_eq_zero (h1.trans h0)
  simp [Yq] at hj
 cases ha
 have e:(⟨b,off,none⟩:Addr).add j=⟨b,off+j,none⟩:=by unfold Addr.add;split<;>simp_all
 rw [e]
 exact hc j u hj

theorem Wm.kept9 {w w':World} {B B' n:Nat} {vb vf v:Value} {e:E3} {cs:List Value} (h:Wm w B vb vf e) (hg:w.grownBy w' v.ownBlock) (ho:w.ownsRow B' 45 3 v n cs):Wm w' B vb vf e:=
 ⟨h.1.kept hg (Ys h.1 ho (by decide)),h.2.kept hg (Ys h.2 ho (by decide))⟩
theorem Wi.snoc9 {w w1 w2 w3:World} {B:Nat} {v v':Value} {es:List E3} {e:E3} {s:Sl2} {cs:List Value} (h:w.ownsRow B 45 3 v es.length cs) (hE:GY w B es.length cs es) (hb:Below w.heap.size w w1)
  (hn:Wm w1 w.heap.size (.slice s.1.1 s.1.2.1 s.1.2.2) (.slice s.2.1 s.2.2.1 s.2.2.2) e) (hb2:Below w1.heap.size w1 w2) (hg:w2.grownBy w3 v.ownBlock) (ho:w3.ownsRow B 45 3 v' (es.length+1) (cs++YI e.1 s)) (hB:B≤w.heap.size):Wi w3 B v' (es++[e]):=by
 have hl:=h.1
 have h2:w2.ownsRow B 45 3 v es.length cs:=Z1 (Z1 h hb) hb2
 have old:∀ t,t<es.length→(cs++YI e.1 s)[t*3]?=cs[t*3]?∧(cs++YI e.1 s).getD (t*3+1) undef=cs.getD (t*3+1) undef∧(cs++YI e.1 s).getD (t*3+2) undef=cs.getD (t*3+2) undef:=fun t ht =>
  ⟨List.getElem?_append_left (by omega),by rw [List.getD,List.getD,List.getElem?_append_left (by omega)],by rw [List.getD,List.getD,List.getElem?_append_left (by omega)]⟩
 have n0:(cs++YI e.1 s)[es.length*3]?=some (.string e.1):=by rw [← hl,List.getElem?_append_right (Nat.le_refl _),Nat.sub_self];rfl
 have n1:(cs++YI e.1 s).getD (es.length*3+1) undef=.slice s.1.1 s.1.2.1 s.1.2.2:=by rw [List.getD,← hl,List.getElem?_append_right (by omega),Nat.add_sub_cancel_left];rfl
 have n2:(cs++YI e.1 s).getD (es.length*3+2) undef=.slice s.2.1 s.2.2.1 s.2.2.2:=by rw [List.getD,← hl,List.getElem?_append_right (by omega),Nat.add_sub_cancel_left];rfl
 have eo:∀ t,t<es.length→(es++[e]).getD t e3d=es.getD t e3d:=fun t ht=>by rw [List.getD,List.getD,List.getElem?_append_left ht]
 have en:(es++[e]).getD es.length e3d=e:=by simp [List.getD]
 have lb:∀ x,(Value.slice s.1.1 s.1.2.1 s.1.2.2).ownBlock=some x→w.heap.size≤x:=fun x hx=>(hn.1.lt x hx).1
 have lf:∀ x,(Value.slice s.2.1 s.2.2.1 s.2.2.2).ownBlock=some x→w.heap.size≤x:=fun x hx=>(hn.2.lt x hx).1
 refine ⟨cs++YI e.1 s,by simpa using ho,?_⟩
 rw [List.length_append,List.length_singleton]
 refine ⟨fun t ht=>?_,fun t t' ht ht' hne=>?_⟩
 ·by_cases e9:t=es.length
  ·subst e9
   rw [n0,n1,n2,en]
   exact ⟨rfl,((hn.lower hB).below hb2).kept9 hg h2⟩
  obtain ⟨o1,o2,o3⟩:=old t (by omega)
  rw [o1,o2,o3,eo t (by omega)]
  obtain ⟨k1,k2⟩:=hE.1 t (by omega)
  exact ⟨k1,((k2.below hb).below hb2).kept9 hg h2⟩
 by_cases e9:t=es.length
 ·subst e9
  obtain ⟨_,o2,o3⟩:=old t' (by omega)
  obtain ⟨_,k2⟩:=hE.1 t' (by omega)
  rw [n1,n2,o2,o3]
  exact ⟨(Si (B':=0) k2.1 lb).2,(Si (B':=0) k2.2 lf).2⟩
 obtain ⟨_,o2,o3⟩:=old t (by omega)
 by_cases e9':t'=es.length
 ·subst e9'
  obtain ⟨_,k2⟩:=hE.1 t (by omega)
  rw [n1,n2,o2,o3]
  exact ⟨(Si (B':=0) k2.1 lb).1,(Si (B':=0) k2.2 lf).1⟩
 obtain ⟨_,o2',o3'⟩:=old t' (by omega)
 rw [o2,o3,o2',o3']
 exact hE.2 t t' (by omega) (by omega) hne


def Vr (x:Ending) (w':World) (B:Nat) (e:E3):Prop:=∃ s:Sl2,x=.returned (ZW e.1 s)∧Wm w' B (.slice s.1.1 s.1.2.1 s.1.2.2) (.slice s.2.1 s.2.2.1 s.2.2.2) e
theorem Vr.mk9 {w':World} {B:Nat} {e:E3} (s:Sl2) (h:Wm w' B (.slice s.1.1 s.1.2.1 s.1.2.2) (.slice s.2.1 s.2.2.1 s.2.2.2) e):Vr (.returned (ZW e.1 s)) w' B e:=⟨s,rfl,h⟩
theorem XX {n c m:Nat} {a:Option Addr} {P:Prop} (hz:a=none→c=0) (h:n≤c):a=none→n=0∧c=0:=fun ha=>⟨by have:=hz ha;omega,hz ha⟩

theorem QG (e:E3) (s:Sl2) (w:World) (h:YK w s e) (h1:e.2.1.length≤1048576) (h2:e.2.2.length≤1048576) :
  Calls Tryz.prog 67 #[ZW e.1 s] w fun x w'=>Vr x w' w.heap.size e∧Below w.heap.size w w':=by
 obtain ⟨i0,hi0,hz00,hz01,hz02⟩:=info_parts Xp
 obtain ⟨i1,hi1,hz10,hz11,hz12⟩:=info_parts XQ
 obtain ⟨⟨_,z1,z2⟩,hB,hF,_⟩:=h
 have l1:=hB.1
 have l2:=hF.1
 have hb1:=hB.2.1
 have hb2:=hF.2.1
 obtain ⟨ek,eb,ez⟩:=e
 obtain ⟨⟨a1,n1,c1⟩,⟨a2,n2,c2⟩⟩:=s
 unfold ZW
 simp only at z1 z2 hB hF l1 l2 h1 h2 hb1 hb2 ⊢
 have hm1:n1≤1048576:=by omega
 have hm2:n2≤1048576:=by omega
 subst l1
 subst l2
 have no1:=XX (m:=0) (P:=True) z1 hb1
 have no2:=XX (m:=0) (P:=True) z2 hb2
 have bw:Below w.heap.size w ((w.alloc (.cells #[.string ek,.slice a1 eb.length c1,.slice a2 ez.length c2] 45)).alloc (.cells #[.string ⟨#[]⟩,.slice none 0 0,.slice none 0 0] 45)):=by go_grown
 have pX:Blk ((w.alloc (.cells #[.string ek,.slice a1 eb.length c1,.slice a2 ez.length c2] 45)).alloc (.cells #[.string ⟨#[]⟩,.slice none 0 0,.slice none 0 0] 45)) w.heap.size 45 [.string ek,.slice a1 eb.length c1,.slice a2 ez.length c2]:=Zl _ (Zj _ _ _ rfl)
 have pR:Blk ((w.alloc (.cells #[.string ek,.slice a1 eb.length c1,.slice a2 ez.length c2] 45)).alloc (.cells #[.string ⟨#[]⟩,.slice none 0 0,.slice none 0 0] 45)) (w.heap.size+1) 45 [.string ⟨#[]⟩,.slice none 0 0,.slice none 0 0]:=Zj _ _ _ (by simp)
 go_enter Tryz.func67,Tryz.ntmps67
 have hV:=pR.lt
 have be:Below ((w.alloc (.cells #[.string ek,.slice a1 eb.length c1,.slice a2 ez.length c2] 45)).alloc (.cells #[.string ⟨#[]⟩,.slice none 0 0,.slice none 0 0] 45)).heap.size ((w.alloc (.cells #[.string ek,.slice a1 eb.length c1,.slice a2 ez.length c2] 45)).alloc (.cells #[.string ⟨#[]⟩,.slice none 0 0,.slice none 0 0] 45)) (((w.alloc (.cells #[.string ek,.slice a1 eb.length c1,.slice a2 ez.length c2] 45)).alloc (.cells #[.string ⟨#[]⟩,.slice none 0 0,.slice none 0 0] 45)).alloc (.cells #[] 103)):=by go_grown
 have qe:(((w.alloc (.cells #[.string ek,.slice a1 eb.length c1,.slice a2 ez.length c2] 45)).alloc (.cells #[.string ⟨#[]⟩,.slice none 0 0,.slice none 0 0] 45)).alloc (.cells #[] 103)).ownsRow (w.heap.size+2) 103 3 (.slice (some ⟨w.heap.size+1+1,0,none⟩) 0 0) 0 []:=by
  have h9:=XZ ((w.alloc (.cells #[.string ek,.slice a1 eb.length c1,.slice a2 ez.length c2] 45)).alloc (.cells #[.string ⟨#[]⟩,.slice none 0 0,.slice none 0 0] 45)) 103 3 (w.heap.size+2) (by omega)
  simpa using h9
 have bE:=Zo bw be
 have xE:=pX.below be
 have rE:=pR.below be
 have yE:=xE.cell 1
 have hsE:w.heap.size+2≤(((w.alloc (.cells #[.string ek,.slice a1 eb.length c1,.slice a2 ez.length c2] 45)).alloc (.cells #[.string ⟨#[]⟩,.slice none 0 0,.slice none 0 0] 45)).alloc (.cells #[] 103)).heap.size:=by have:=be.size;omega
 simp only [List.getElem?_cons_zero,List.getElem?_cons_succ] at yE
 clear be hV
 go_wp2_with (at_builtin;refine XH rfl _ _ 28 rfl (w.heap.size+2) 103 i0 (.agg #[.int .i64 0,.int .i64 0,.int .i64 0]) 3 24 Tryz.underlying28 hi0 hz00 hz01 hz02 rfl (by decide) _ _ _ rfl qe a1 eb.length c1 rfl no1 (Zn eb) (by rw [Zw]) (fun ad ha=>by subst ha;exact Rm (hB.below bE)) (Yk eb) (by unfold maxLen;omega) (by omega) hsE ?_)
 intro v9 V0 hown hgrow _
 have hgB:∀ g,(Value.slice (some ⟨w.heap.size+1+1,0,none⟩) 0 0).ownBlock=some g→w.heap.size+2≤g:=fun g hg=>(qe.lt g hg).1
 replace bE:=bE.grown hgrow (by omega) (fun g hg=>by have:=hgB g hg;omega)
 replace xE:=xE.kept hgrow (fun e9=>by have:=hgB _ e9;omega)
 replace rE:=rE.kept hgrow (fun e9=>by have:=hgB _ e9;omega)
 have qN:V0.ownsRow (w.heap.size+2) 103 3 v9 eb.length (Zn eb):=by simpa using hown
 obtain ⟨va0,vc0,rfl⟩:=ZY qN
 clear hown hgrow hgB qe yE hsE
 have yz:=xE.cell 1
 have fz:=xE.frozen 1
 simp only [List.getElem?_cons_zero,List.getElem?_cons_succ] at yz
 clear bw pX pR 
 have bw:=bE.setCell (p:=⟨w.heap.size,1,none⟩) (Nat.le_refl _) (.slice va0 eb.length vc0)
 have pR:=rE.off ⟨w.heap.size,1,none⟩ (.slice va0 eb.length vc0) (by simp)
 have pX:=xE.set 1 (.slice va0 eb.length vc0)
 simp only [List.set_cons_zero,List.set_cons_succ] at pX
 have qB:=ownsRow_setCell_below qN (a:=⟨w.heap.size,1,none⟩) (show w.heap.size<w.heap.size+2 by omega) (.slice va0 eb.length vc0)
 clear bE xE rE qN 
 have hV:=pR.lt
 have be:Below (V0.setCell ⟨w.heap.size,1,none⟩ (.slice va0 eb.length vc0)).heap.size (V0.setCell ⟨w.heap.size,1,none⟩ (.slice va0 eb.length vc0)) ((V0.setCell ⟨w.heap.size,1,none⟩ (.slice va0 eb.length vc0)).alloc (.cells #[] 3)):=by go_grown
 have qe:((V0.setCell ⟨w.heap.size,1,none⟩ (.slice va0 eb.length vc0)).alloc (.cells #[] 3)).ownsRow (w.heap.size+2) 3 1 (.slice (some ⟨V0.heap.size,0,none⟩) 0 0) 0 []:=by
  have h9:=XZ (V0.setCell ⟨w.heap.size,1,none⟩ (.slice va0 eb.length vc0)) 3 1 (w.heap.size+2) (by omega)
  simpa using h9
 have bE:=Zo bw be
 have xE:=pX.below be
 have rE:=pR.below be
 have bqE:=Z1 qB be
 have yE:=xE.cell 2
 have hsE:w.heap.size+2≤((V0.setCell ⟨w.heap.size,1,none⟩ (.slice va0 eb.length vc0)).alloc (.cells #[] 3)).heap.size:=by have:=be.size;omega
 simp only [List.getElem?_cons_zero,List.getElem?_cons_succ] at yE
 clear be hV
 go_wp2_with (at_builtin;refine XH rfl _ _ 36 rfl (w.heap.size+2) 3 i1 (.int .i64 0) 1 8 Tryz.underlying36 hi1 hz10 hz11 hz12 rfl (by decide) _ _ _ rfl qe a2 ez.length c2 rfl no2 (ez.map (Value.int .i64)) (by rw [List.length_map,Nat.mul_one]) (fun ad ha=>by subst ha;exact FO (hF.below bE)) (Ro ez) (by unfold maxLen;omega) (by omega) hsE ?_)
 intro v9 V1 hown hgrow _
 have hgB:∀ g,(Value.slice (some ⟨V0.heap.size,0,none⟩) 0 0).ownBlock=some g→w.heap.size+2≤g:=fun g hg=>(qe.lt g hg).1
 replace bE:=bE.grown hgrow (by omega) (fun g hg=>by have:=hgB g hg;omega)
 replace xE:=xE.kept hgrow (fun e9=>by have:=hgB _ e9;omega)
 replace rE:=rE.kept hgrow (fun e9=>by have:=hgB _ e9;omega)
 replace bqE:=bqE.kept hgrow (Ys bqE qe (by decide))
 have qN:V1.ownsRow (w.heap.size+2) 3 1 v9 ez.length (ez.map (Value.int .i64)):=by simpa using hown
 obtain ⟨va1,vc1,rfl⟩:=ZY qN
 clear hown hgrow hgB qe yE hsE
 have yz:=xE.cell 2
 have fz:=xE.frozen 2
 simp only [List.getElem?_cons_zero,List.getElem?_cons_succ] at yz
 clear bw pX pR qB
 have bw:=bE.setCell (p:=⟨w.heap.size,2,none⟩) (Nat.le_refl _) (.slice va1 ez.length vc1)
 have pR:=rE.off ⟨w.heap.size,2,none⟩ (.slice va1 ez.length vc1) (by simp)
 have pX:=xE.set 2 (.slice va1 ez.length vc1)
 simp only [List.set_cons_zero,List.set_cons_succ] at pX
 have qF:=ownsRow_setCell_below qN (a:=⟨w.heap.size,2,none⟩) (show w.heap.size<w.heap.size+2 by omega) (.slice va1 ez.length vc1)
 have qB:=ownsRow_setCell_below bqE (a:=⟨w.heap.size,2,none⟩) (show w.heap.size<w.heap.size+2 by omega) (.slice va1 ez.length vc1)
 clear bE xE rE qN bqE
 have o0:=pX.cell 0
 have o1:=pX.cell 1
 have o2:=pX.cell 2
 have r0:=pR.cell 0
 have r1:=pR.cell 1
 have r2:=pR.cell 2
 have fr0:=pR.frozen 0
 have fr1:=pR.frozen 1
 have fr2:=pR.frozen 2
 simp only [List.getElem?_cons_zero,List.getElem?_cons_succ] at o0 o1 o2 r0 r1 r2
 have pZ:=((pR.set 0 (.string ek)).set 1 (.slice va0 eb.length vc0)).set 2 (.slice va1 ez.length vc1)
 simp only [List.set_cons_zero,List.set_cons_succ] at pZ
 have z0:=pZ.cell 0
 have zz1:=pZ.cell 1
 have zz2:=pZ.cell 2
 simp only [List.getElem?_cons_zero,List.getElem?_cons_succ] at z0 zz1 zz2
 have hle:w.heap.size≤w.heap.size+1:=by omega
 have hlt9:w.heap.size+1<w.heap.size+2:=by omega
 have bz:=((bw.setCell (p:=⟨w.heap.size+1,0,none⟩) hle (.string ek)).setCell (p:=⟨w.heap.size+1,1,none⟩) hle (.slice va0 eb.length vc0)).setCell (p:=⟨w.heap.size+1,2,none⟩) hle (.slice va1 ez.length vc1)
 replace qB:=ownsRow_setCell_below (ownsRow_setCell_below (ownsRow_setCell_below qB (a:=⟨w.heap.size+1,0,none⟩) hlt9 (.string ek)) (a:=⟨w.heap.size+1,1,none⟩) hlt9 (.slice va0 eb.length vc0)) (a:=⟨w.heap.size+1,2,none⟩) hlt9 (.slice va1 ez.length vc1)
 replace qF:=ownsRow_setCell_below (ownsRow_setCell_below (ownsRow_setCell_below qF (a:=⟨w.heap.size+1,0,none⟩) hlt9 (.string ek)) (a:=⟨w.heap.size+1,1,none⟩) hlt9 (.slice va0 eb.length vc0)) (a:=⟨w.heap.size+1,2,none⟩) hlt9 (.slice va1 ez.length vc1)
 have qB9:=Yz qB (show w.heap.size≤w.heap.size+2 by omega)
 have qF9:=Yz qF (show w.heap.size≤w.heap.size+2 by omega)
 clear pR pZ pX bw qB qF
 go_wp2
 refine bodyPost_ret (by simp [results,Tryz.results67,go_sem,z0,zz1,zz2];try rfl) rfl ?_
 exact ⟨Vr.mk9 (e:=(ek,eb,ez)) ((va0,eb.length,vc0),(va1,ez.length,vc1)) ⟨qB9,qF9⟩,bz⟩


theorem F0 {xs:List I3} (h1:∀ x ∈ xs,okB x=true) (h2:YD xs):UN xs=true:=by
 refine Vi fun k hk=>?_
 have g:∀ i (hi:i<xs.length),xs.getD i (0,0,0)=xs[i]:=fun i hi=>by simp [List.getD,List.getElem?_eq_getElem hi]
 simp only [Mw,Bool.and_eq_true,Bool.or_eq_true,decide_eq_true_eq]
 refine ⟨by rw [g k hk];exact h1 _ (List.getElem_mem _),?_⟩
 by_cases h0:k=0
 ·exact .inl h0
 right
 rw [g k hk,g (k - 1) (by omega)]
 exact List.pairwise_iff_getElem.1 h2 (k - 1) k (by omega) hk (by omega)
theorem Gz {xs:List Int} (h1:∀ x ∈ xs,Wj x=true) (h2:xs.Pairwise (· < ·)):TW xs=true:=by
 refine Vi fun k hk=>?_
 have g:∀ i (hi:i<xs.length),xs.getD i 0=xs[i]:=fun i hi=>by simp [List.getD,List.getElem?_eq_getElem hi]
 simp only [P0,Bool.and_eq_true,Bool.or_eq_true,decide_eq_true_eq]
 refine ⟨by rw [g k hk];exact h1 _ (List.getElem_mem _),?_⟩
 by_cases h0:k=0
 ·exact .inl h0
 right
 rw [g k hk,g (k - 1) (by omega)]
 exact List.pairwise_iff_getElem.1 h2 (k - 1) k (by omega) hk (by omega)

namespace Rq
open Go.RowKit
set_option linter.unusedVariables false
set_option linter.unusedSimpArgs false

def ZO (w:World) (g:Nat) (cs:Sl × Sl × Sl) (rows:List (List I3)) (m:V4):Prop:=
 (∃ kv fv bv mv:Value,Blk w g 101 (kv::(Zi cs.1.val cs.2.1.val cs.2.2.val m++[fv,bv,mv])))∧∀ k,k<3→Zr w (slK cs k).1 (slK cs k).2.1 (slK cs k).2.2 (Yg rows k)
theorem ZO.below {w w':World} {g:Nat} {cs:Sl × Sl × Sl} {rows:List (List I3)} {m:V4} (h:ZO w g cs rows m) (hb:Below w.heap.size w w'):ZO w' g cs rows m:=by
 obtain ⟨⟨kv,fv,bv,mv,h1⟩,h2⟩:=h
 exact ⟨⟨kv,fv,bv,mv,h1.below hb⟩,fun k hk=>(h2 k hk).below hb⟩
theorem ZO.at18 {w:World} {g:Nat} {cs:Sl × Sl × Sl} {rows:List (List I3)} {m:V4} (h:ZO w g cs rows m) {i:Nat} (hi:i<18):w.cell? ⟨g,1+i,none⟩=(Zi cs.1.val cs.2.1.val cs.2.2.val m)[i]?:=by
 obtain ⟨⟨kv,fv,bv,mv,h1⟩,_⟩:=h
 rw [h1.cell,Nat.add_comm 1 i,List.getElem?_cons_succ,List.getElem?_append_left (show i<(Zi cs.1.val cs.2.1.val cs.2.2.val m).length from hi)]
theorem ZO.code {w:World} {g:Nat} {cs:Sl × Sl × Sl} {rows:List (List I3)} {m:V4} (h:ZO w g cs rows m) {k:Nat} (hk:k<3):w.cell? ⟨g,1+k*4,none⟩=some (.slice (slK cs k).1 (slK cs k).2.1 (slK cs k).2.2):=by
 rw [h.at18 (by omega),Je _ _ _ _ hk,MA cs hk];rfl
theorem ZO.pc {w:World} {g:Nat} {cs:Sl × Sl × Sl} {rows:List (List I3)} {m:V4} (h:ZO w g cs rows m) {k:Nat} (hk:k<3):w.cell? ⟨g,1+k*4+1,none⟩=some (.int .i64 (m.1.getD k 0)):=by
 rw [show 1+k*4+1=1+(k*4+1) by omega,h.at18 (by omega),FK _ _ _ _ hk]
theorem ZO.held {w:World} {g:Nat} {cs:Sl × Sl × Sl} {rows:List (List I3)} {m:V4} (h:ZO w g cs rows m) {a:Nat} (ha:a<2):w.cell? ⟨g,17+a,none⟩=some (.int .i64 (m.2.2.1.getD a 0)):=by
 rw [show 17+a=1+(16+a) by omega,h.at18 (by omega),SE _ _ _ _ ha]
theorem Sc (g k:Nat) (a:Option Addr) (n c:Nat) (pc:Int) (w:World) (hk:k<3) (h0:w.cell? ⟨g,1+k*4,none⟩=some (.slice a n c)) (h1:w.cell? ⟨g,1+k*4+1,none⟩=some (.int .i64 pc)) (hd:(n:Int)≤pc) :
  Calls Tryz.prog 157 #[.pointer (some ⟨g,1,none⟩),.int .i64 k] w fun e w'=>e=.returned (.bool false)∧Below w.heap.size w w':=by
 have kD:=VK g (1+k*4) a n c pc w h0 h1
 rw [decide_eq_true hd] at kD
 have hk3:(k:Int)<3:=by omega
 go_enter Tryz.func157,Tryz.ntmps157
 go_wp2_with fail
 refine kD.mono ?_
 rintro e w1 ⟨rfl,d,rfl⟩
 go_wp2
 go_ret
 exact ⟨rfl,ZU _⟩
theorem Sd (g k p b off:Nat) (n c:Nat) (x0 x1 x2:Int) (w:World) (hk:k<3) (hd:p<n)
  (h0:w.cell? ⟨g,1+k*4,none⟩=some (.slice (some ⟨b,off,none⟩) n c)) (h1:w.cell? ⟨g,1+k*4+1,none⟩=some (.int .i64 p)) (c0:w.cell? ⟨b,off+p*3,none⟩=some (.int .i64 x0)) (c1:w.cell? ⟨b,off+p*3+1,none⟩=some (.int .i64 x1)) (c2:w.cell? ⟨b,off+p*3+2,none⟩=some (.int .i64 x2)) (hx:x0≠5) :
  Calls Tryz.prog 157 #[.pointer (some ⟨g,1,none⟩),.int .i64 k] w fun e w'=>e=.returned (.bool false)∧Below w.heap.size w w':=by
 have kD:=VK g (1+k*4) (some ⟨b,off,none⟩) n c p w h0 h1
 rw [decide_eq_false (by omega)] at kD
 have hk3:(k:Int)<3:=by omega
 have hpn:(p:Int)<(n:Int):=by omega
 go_enter Tryz.func157,Tryz.ntmps157
 go_wp2_with fail
 refine kD.mono ?_
 rintro e w1 ⟨rfl,d,rfl⟩
 clear kD
 go_wp2_with fail
 replace h0:(w.drewN d).cell? ⟨g,1+k*4,none⟩=some (.slice (some ⟨b,off,none⟩) n c):=h0
 replace h1:(w.drewN d).cell? ⟨g,1+k*4+1,none⟩=some (.int .i64 p):=h1
 replace c0:(w.drewN d).cell? ⟨b,off+p*3,none⟩=some (.int .i64 x0):=c0
 replace c1:(w.drewN d).cell? ⟨b,off+p*3+1,none⟩=some (.int .i64 x1):=c1
 replace c2:(w.drewN d).cell? ⟨b,off+p*3+2,none⟩=some (.int .i64 x2):=c2
 have bw:Below w.heap.size w (w.drewN d):=ZU _
 generalize w.drewN d=W at *
 refine wp_region_held_drew (S:=(fun w'=>w'.cell? ⟨g,1+k*4,none⟩=some (.slice (some ⟨b,off,none⟩) n c)∧w'.cell? ⟨g,1+k*4+1,none⟩=some (.int .i64 p)∧w'.cell? ⟨b,off+p*3,none⟩=some (.int .i64 x0)∧w'.cell? ⟨b,off+p*3+1,none⟩=some (.int .i64 x1)∧w'.cell? ⟨b,off+p*3+2,none⟩=some (.int .i64 x2))) (by kernel_rfl) ⟨h0,h1,c0,c1,c2⟩ (fun hS0=>?_)
 refine tkm 0 14 (.pointer (some ⟨g,1+k*4,none⟩)) ?_
 refine tkm 1 15 (.pointer (some ⟨g,1+k*4,none⟩)) ?_
 refine tkm 2 16 (.pointer (some ⟨g,1+k*4,none⟩)) ?_
 refine tkm 3 17 (.slice (some ⟨b,off,none⟩) n c) ?_
 refine tkm 4 18 (.pointer (some ⟨g,1+k*4,none⟩)) ?_
 refine tkm 5 19 (.pointer (some ⟨g,1+k*4,none⟩)) ?_
 refine tkm 6 20 (.pointer (some ⟨g,1+k*4+1,none⟩)) ?_
 refine tkm 7 21 (.int .i64 p) ?_
 refine tkm 8 22 (.pointer (some ⟨b,off+p*3,none⟩)) ?_
 refine tkm 9 23 (.agg #[.int .i64 x0,.int .i64 x1,.int .i64 x2]) ?_
 refine tkr 10 6 (fun K hK=>?_)
 have hal:Below W.drew.heap.size W.drew (W.drew.alloc (.cells #[.int .i64 0,.int .i64 0,.int .i64 0] 122)):=by go_grown
 go_simp
 refine hK.out _ _ ?_ (fun hS1=>?_)
 ·exact ⟨Za hal _ _ hS0.1,Za hal _ _ hS0.2.1,Za hal _ _ hS0.2.2.1,Za hal _ _ hS0.2.2.2.1,Za hal _ _ hS0.2.2.2.2⟩
 clear hK
 try simp only [Act.put,tka,tkb,tkc]
 refine tkz 11 (fun K hK=>?_)
 have hal2:Below W.drew.heap.size W.drew (W.drew.alloc (.cells #[.int .i64 x0,.int .i64 x1,.int .i64 x2] 122)):=by go_grown
 go_simp
 refine hK.out _ _ ?_ (fun hS2=>?_)
 ·exact ⟨Za hal2 _ _ hS0.1,Za hal2 _ _ hS0.2.1,Za hal2 _ _ hS0.2.2.1,Za hal2 _ _ hS0.2.2.2.1,Za hal2 _ _ hS0.2.2.2.2⟩
 clear hK
 try simp only [Act.put,tka,tkb,tkc]
 refine wpAnyH_done (by kernel_rfl) ?_ _
 replace bw:Below w.heap.size w (W.alloc (.cells #[.int .i64 x0,.int .i64 x1,.int .i64 x2] 122)).drew:=Zb bw (by go_grown)
 have pX:Blk (W.alloc (.cells #[.int .i64 x0,.int .i64 x1,.int .i64 x2] 122)).drew W.heap.size 122 [.int .i64 x0,.int .i64 x1,.int .i64 x2]:=Blk.new W 122 [.int .i64 x0,.int .i64 x1,.int .i64 x2]
 have q0:=pX.cell 0
 have q1:=pX.cell 1
 simp only [List.getElem?_cons_zero,List.getElem?_cons_succ] at q0 q1
 clear hal hal2 hS0 hS1 h0 h1 c0 c1 c2 pX
 clear hS2
 have hx5:(x0 == 5)=false:=by simp [hx]
 go_wp2_with fail
 generalize (W.alloc (.cells #[.int .i64 x0,.int .i64 x1,.int .i64 x2] 122)).drew=W2 at *
 generalize W.heap.size=gx at *
 go_quiet (fail)
 have bz:Below w.heap.size w (W2.drewN nq):=Zb bw (ZU _)
 go_wp2
 go_ret
 exact ⟨rfl,bz⟩
theorem Se (g k p b off:Nat) (n c:Nat) (x2:Int) (q:Nat) (hv:Int) (w:World) (hk:k<3) (hd:p<n)
  (h0:w.cell? ⟨g,1+k*4,none⟩=some (.slice (some ⟨b,off,none⟩) n c)) (h1:w.cell? ⟨g,1+k*4+1,none⟩=some (.int .i64 p)) (c0:w.cell? ⟨b,off+p*3,none⟩=some (.int .i64 5)) (c1:w.cell? ⟨b,off+p*3+1,none⟩=some (.int .i64 q)) (c2:w.cell? ⟨b,off+p*3+2,none⟩=some (.int .i64 x2)) (h6:w.cell? ⟨g,17+q,none⟩=some (.int .i64 hv)) (hq:q<2) (z:Bool) (hz:z=!decide (hv=0)) :
  Calls Tryz.prog 157 #[.pointer (some ⟨g,1,none⟩),.int .i64 k] w fun e w'=>e=.returned (.bool z)∧Below w.heap.size w w':=by
 have kD:=VK g (1+k*4) (some ⟨b,off,none⟩) n c p w h0 h1
 rw [decide_eq_false (by omega)] at kD
 have hk3:(k:Int)<3:=by omega
 have hpn:(p:Int)<(n:Int):=by omega
 go_enter Tryz.func157,Tryz.ntmps157
 go_wp2_with fail
 refine kD.mono ?_
 rintro e w1 ⟨rfl,d,rfl⟩
 clear kD
 go_wp2_with fail
 replace h0:(w.drewN d).cell? ⟨g,1+k*4,none⟩=some (.slice (some ⟨b,off,none⟩) n c):=h0
 replace h1:(w.drewN d).cell? ⟨g,1+k*4+1,none⟩=some (.int .i64 p):=h1
 replace c0:(w.drewN d).cell? ⟨b,off+p*3,none⟩=some (.int .i64 5):=c0
 replace c1:(w.drewN d).cell? ⟨b,off+p*3+1,none⟩=some (.int .i64 q):=c1
 replace c2:(w.drewN d).cell? ⟨b,off+p*3+2,none⟩=some (.int .i64 x2):=c2
 replace h6:(w.drewN d).cell? ⟨g,17+q,none⟩=some (.int .i64 hv):=h6
 have bw:Below w.heap.size w (w.drewN d):=ZU _
 generalize w.drewN d=W at *
 refine wp_region_held_drew (S:=(fun w'=>w'.cell? ⟨g,1+k*4,none⟩=some (.slice (some ⟨b,off,none⟩) n c)∧w'.cell? ⟨g,1+k*4+1,none⟩=some (.int .i64 p)∧w'.cell? ⟨b,off+p*3,none⟩=some (.int .i64 5)∧w'.cell? ⟨b,off+p*3+1,none⟩=some (.int .i64 q)∧w'.cell? ⟨b,off+p*3+2,none⟩=some (.int .i64 x2)∧w'.cell? ⟨g,17+q,none⟩=some (.int .i64 hv))) (by kernel_rfl) ⟨h0,h1,c0,c1,c2,h6⟩ (fun hS0=>?_)
 refine tkm 0 14 (.pointer (some ⟨g,1+k*4,none⟩)) ?_
 refine tkm 1 15 (.pointer (some ⟨g,1+k*4,none⟩)) ?_
 refine tkm 2 16 (.pointer (some ⟨g,1+k*4,none⟩)) ?_
 refine tkm 3 17 (.slice (some ⟨b,off,none⟩) n c) ?_
 refine tkm 4 18 (.pointer (some ⟨g,1+k*4,none⟩)) ?_
 refine tkm 5 19 (.pointer (some ⟨g,1+k*4,none⟩)) ?_
 refine tkm 6 20 (.pointer (some ⟨g,1+k*4+1,none⟩)) ?_
 refine tkm 7 21 (.int .i64 p) ?_
 refine tkm 8 22 (.pointer (some ⟨b,off+p*3,none⟩)) ?_
 refine tkm 9 23 (.agg #[.int .i64 5,.int .i64 q,.int .i64 x2]) ?_
 refine tkr 10 6 (fun K hK=>?_)
 have hal:Below W.drew.heap.size W.drew (W.drew.alloc (.cells #[.int .i64 0,.int .i64 0,.int .i64 0] 122)):=by go_grown
 go_simp
 refine hK.out _ _ ?_ (fun hS1=>?_)
 ·exact ⟨Za hal _ _ hS0.1,Za hal _ _ hS0.2.1,Za hal _ _ hS0.2.2.1,Za hal _ _ hS0.2.2.2.1,Za hal _ _ hS0.2.2.2.2.1,Za hal _ _ hS0.2.2.2.2.2⟩
 clear hK
 try simp only [Act.put,tka,tkb,tkc]
 refine tkz 11 (fun K hK=>?_)
 have hal2:Below W.drew.heap.size W.drew (W.drew.alloc (.cells #[.int .i64 5,.int .i64 q,.int .i64 x2] 122)):=by go_grown
 go_simp
 refine hK.out _ _ ?_ (fun hS2=>?_)
 ·exact ⟨Za hal2 _ _ hS0.1,Za hal2 _ _ hS0.2.1,Za hal2 _ _ hS0.2.2.1,Za hal2 _ _ hS0.2.2.2.1,Za hal2 _ _ hS0.2.2.2.2.1,Za hal2 _ _ hS0.2.2.2.2.2⟩
 clear hK
 try simp only [Act.put,tka,tkb,tkc]
 refine wpAnyH_done (by kernel_rfl) ?_ _
 replace bw:Below w.heap.size w (W.alloc (.cells #[.int .i64 5,.int .i64 q,.int .i64 x2] 122)).drew:=Zb bw (by go_grown)
 have pX:Blk (W.alloc (.cells #[.int .i64 5,.int .i64 q,.int .i64 x2] 122)).drew W.heap.size 122 [.int .i64 5,.int .i64 q,.int .i64 x2]:=Blk.new W 122 [.int .i64 5,.int .i64 q,.int .i64 x2]
 have q0:=pX.cell 0
 have q1:=pX.cell 1
 simp only [List.getElem?_cons_zero,List.getElem?_cons_succ] at q0 q1
 clear hal hal2 hS0 hS1 h0 h1 c0 c1 c2 h6 pX
 replace hS2:=hS2.2.2.2.2.2
 have hq2:(q:Int)<2:=by omega
 have hv0:(hv != 0)=z:=by rw [hz];by_cases h:hv=0<;>simp [h]
 clear hz
 go_wp2_with fail
 generalize (W.alloc (.cells #[.int .i64 5,.int .i64 q,.int .i64 x2] 122)).drew=W2 at *
 generalize W.heap.size=gx at *
 go_quiet (fail)
 have bz:Below w.heap.size w (W2.drewN nq):=Zb bw (ZU _)
 go_wp2
 go_ret
 exact ⟨rfl,bz⟩
theorem U9 {w:World} {g:Nat} {cs:Sl × Sl × Sl} {rows:List (List I3)} {m:V4} (h:ZO w g cs rows m) {k:Nat} (hk:k<3) :
  Calls Tryz.prog 156 #[.pointer (some ⟨g,1+k*4,none⟩)] w fun e w'=>e=.returned (.bool (Ya rows m k))∧∃ d,w'=w.drewN d:=by
 have hl:=(h.2 k hk).1
 have:=VK g (1+k*4) _ _ _ _ w (h.code hk) (h.pc hk)
 unfold Ya
 rw [hl]
 exact this
theorem Po {w:World} {g:Nat} {cs:Sl × Sl × Sl} {rows:List (List I3)} {m:V4} (h:ZO w g cs rows m) (hp:Zf rows=true) (hs:Zc m=true) {k:Nat} (hk:k<3) :
  Calls Tryz.prog 157 #[.pointer (some ⟨g,1,none⟩),.int .i64 k] w fun e w'=>e=.returned (.bool (UO rows m k))∧Below w.heap.size w w':=by
 unfold UO
 cases hd:Ya rows m k
 ·obtain ⟨p,ep,hlt,hi,hok⟩:=Up hp hs hk hd
  have h0:=h.code hk
  have h1:=h.pc hk
  rw [ep] at h1
  obtain ⟨b,off,ea,hpn,c0,c1,c2⟩:=QB (h.2 k hk) hlt
  rw [← hi] at c0 c1 c2
  rw [ea] at h0
  by_cases h5:(Xa rows m k).1=5
  ·obtain ⟨q,hq,hq2⟩:=QP hok h5
   rw [h5] at c0
   rw [hq] at c1
   have hh:=h.held hq2
   have e:Wq m (Xa rows m k)=!decide (m.2.2.1.getD q 0=0):=by
    unfold Wq
    rw [h5,hq]
    simp
   rw [e]
   exact Se g k p b off _ _ _ q _ w hk hpn h0 h1 c0 c1 c2 hh hq2 _ rfl
  have e:Wq m (Xa rows m k)=false:=by unfold Wq;simp [h5]
  rw [e]
  exact Sd g k p b off _ _ _ _ _ w hk hpn h0 h1 c0 c1 c2 h5
 have h0:=h.code hk
 have h1:=h.pc hk
 unfold Ya at hd
 simp only [decide_eq_true_eq] at hd
 rw [(h.2 k hk).1] at hd
 exact Sc g k _ _ _ _ w hk h0 h1 hd
theorem Vx (g:Nat) (cs:Sl × Sl × Sl) (rows:List (List I3)) (m:V4) (w:World) (h:ZO w g cs rows m) (hp:Zf rows=true) (hs:Zc m=true) :
  Calls Tryz.prog 124 #[.pointer (some ⟨g,1,none⟩)] w fun e w'=>(∃ s:Sl,e=.returned (.slice s.1 s.2.1 s.2.2)∧Z0 w' w.heap.size s (Zm rows m 3))∧Below w.heap.size w w':=by
 obtain ⟨i0,hi,hz0,hz1,hz2⟩:=info_parts XQ
 have kD:=fun (W:World) (hM:ZO W g cs rows m) (k:Nat) (hk:k<3)=>U9 hM hk
 have kW:=fun (W:World) (hM:ZO W g cs rows m) (k:Nat) (hk:k<3)=>Po hM hp hs hk
 go_enter Tryz.func124,Tryz.ntmps124
 go_wp2_with fail
 go_loopw [3,5] (fun so si wr=>∃ (k:Nat) (n:Nat) (v:Value),v=so∧k≤3∧si=.int .i64 k∧Hid (n=(Zm rows m k).length)∧wr.ownsRow w.heap.size 3 1 v n ((Zm rows m k).map (Value.int .i64))∧Below w.heap.size w wr) (fun _ si _=>3 - (intOf si).toNat)
 case atStart=>exact ⟨0,0,_,rfl,by omega,rfl,rfl,World.ownsRow_nil _ _ _ _,Below.refl _ _⟩
 case round =>
  obtain ⟨k,n,so,rfl,hk,rfl,HN,hr,hbw⟩:=hrel
  have hM:=h.below hbw
  by_cases hlt:k<3
  ·have hk3:(k:Int)<3:=by omega
   have kD1:=kD _ hM k hlt
   have hsz:=hbw.size
   cases hd:Ya rows m k
   ·rw [hd] at kD1
    go_wp2_with fail
    refine kD1.mono ?_
    rintro e w1 ⟨rfl,d,rfl⟩
    replace hM:ZO (wr.drewN d) g cs rows m:=hM.below (ZU _)
    replace hr:(wr.drewN d).ownsRow w.heap.size 3 1 so n ((Zm rows m k).map (Value.int .i64)):=hr
    replace hbw:Below w.heap.size w (wr.drewN d):=Zb hbw (ZU _)
    replace hsz:w.heap.size≤(wr.drewN d).heap.size:=hsz
    generalize wr.drewN d=W1 at *
    have kW1:=kW _ hM k hlt
    clear kD1
    cases hw:UO rows m k
    ·have hcan:YH rows m k=true:=by
      unfold UO at hw
      unfold YH
      rw [hd] at hw ⊢
      simpa using hw
     rw [hw] at kW1
     go_wp2_with fail
     refine kW1.mono ?_
     rintro e w2 ⟨rfl,hb⟩
     replace hM:=hM.below hb
     replace hr:=Zs hr hb
     replace hbw:=Zb hbw hb
     replace hsz:=hbw.size
     clear hb kW1
     have hn3:n≤3:=by have:=YM rows m k;have:=HN.out;omega
     have HN2:Hid (n+1=(Zm rows m (k+1)).length):=by rw [Hid,Vl hcan,List.length_append,← HN.out];rfl
     have HX:Hid (Zm rows m (k+1)=Zm rows m k++[(k:Int)]):=Vl hcan
     go_wp2_with (at_builtin;refine wpList_append_own _ rfl _ _ 36 rfl w.heap.size 3 i0 (.int .i64 0) 1 8 Tryz.underlying36 hi hz0 hz1 hz2 rfl (by decide) _ _ _ rfl (hr.alloc _) ⟨w2.heap.size,0,none⟩ 1 1 [.int .i64 (k:Int)] rfl rfl (cell_one_new _ _ _) (by simp [Value.oneCell']) ?c3 ?c4 ?c5 ?_)
     case c3=>unfold maxLen;omega
     case c4=>omega
     case c5=>simp;omega
     intro v' wn hown' hgrow _
     have R:wn.ownsRow w.heap.size 3 1 v' (n+1) ((Zm rows m (k+1)).map (Value.int .i64)):=by
      rw [HX.out,List.map_append]
      exact hown'
     have bn:Below w.heap.size w wn:=(hbw.alloc hsz _).grown hgrow (by simp;omega) (fun k hk=>(hr.lt k hk).1)
     clear hown' hgrow hr hbw hM HX
     go_wp2
     go_roundw
     case rel=>exact ⟨k+1,n+1,_,rfl,by omega,by go_num,HN2,R,bn⟩
     case measure=>simp [intOf];omega
    have hcan:YH rows m k=false:=by
     unfold UO at hw
     unfold YH
     rw [hd] at hw ⊢
     simpa using hw
    rw [hw] at kW1
    have HN2:Hid (n=(Zm rows m (k+1)).length):=by rw [Hid,XN hcan];exact HN.out
    rw [← XN hcan] at hr
    go_wp2_with fail
    refine kW1.mono ?_
    rintro e w2 ⟨rfl,hb⟩
    replace hM:=hM.below hb
    replace hr:=Zs hr hb
    replace hbw:=Zb hbw hb
    clear hb kW1
    go_wp2
    go_roundw
    case rel=>exact ⟨k+1,n,_,rfl,by omega,by go_num,HN2,hr,hbw⟩
    case measure=>simp [intOf];omega
   have hcan:YH rows m k=false:=by unfold YH;rw [hd];rfl
   rw [hd] at kD1
   have HN2:Hid (n=(Zm rows m (k+1)).length):=by rw [Hid,XN hcan];exact HN.out
   rw [← XN hcan] at hr
   go_wp2_with fail
   refine kD1.mono ?_
   rintro e w1 ⟨rfl,d,rfl⟩
   replace hM:ZO (wr.drewN d) g cs rows m:=hM.below (ZU _)
   replace hr:(wr.drewN d).ownsRow w.heap.size 3 1 so n ((Zm rows m (k+1)).map (Value.int .i64)):=hr
   replace hbw:Below w.heap.size w (wr.drewN d):=Zb hbw (ZU _)
   generalize wr.drewN d=W1 at *
   go_wp2
   go_roundw
   case rel=>exact ⟨k+1,n,_,rfl,by omega,by go_num,HN2,hr,hbw⟩
   case measure=>simp [intOf];omega
  obtain rfl:k=3:=by omega
  obtain ⟨a,c,rfl⟩:∃ a c,so=.slice a n c:=by
   rcases hr.2 with ⟨rfl,rfl⟩ | ⟨g',cap,cur,hv,_⟩
   ·exact ⟨none,0,rfl⟩
   exact ⟨_,cap,hv⟩
  clear kD kW hM
  go_wp2
  go_ret
  exact ⟨⟨(a,n,c),rfl,hr⟩,hbw⟩
theorem stuck_is (g:Nat) (cs:Sl × Sl × Sl) (rows:List (List I3)) (m:V4) (w:World) (h:ZO w g cs rows m) (hp:Zf rows=true) (hs:Zc m=true) :
  Calls Tryz.prog 159 #[.pointer (some ⟨g,1,none⟩)] w fun e w'=>e=.returned (.bool (YS rows m))∧Below w.heap.size w w':=by
 have kE:=Vx g cs rows m w h hp hs
 have kD:=fun (W:World) (hM:ZO W g cs rows m) (k:Nat) (hk:k<3)=>U9 hM hk
 obtain ⟨fin,hfin⟩:∃ fin,fin=YS rows m:=⟨_,rfl⟩
 rw [← hfin]
 have HF:Hid (fin=(decide (Zm rows m 3=[]) && XD rows m 0)):=hfin
 clear hfin
 go_enter Tryz.func159,Tryz.ntmps159
 go_wp2_with fail
 refine kE.mono ?_
 rintro e w1 ⟨⟨⟨a,n,c⟩,rfl,ho⟩,hb⟩
 have hn:(Zm rows m 3).length=n:=by
  have:=ho.1
  simpa using this
 clear ho kE
 simp only
 by_cases h0:n=0
 ·subst h0
  have HL:Hid (fin=XD rows m 0):=by rw [Hid,HF.out,List.eq_nil_of_length_eq_zero hn];rfl
  clear HF hn
  go_wp2_with fail
  go_loopw [8] (fun si wr=>∃ k:Nat,k≤3∧si=.int .i64 k∧Hid (fin=XD rows m k)∧Below w.heap.size w wr) (fun si _=>3 - (intOf si).toNat)
  case atStart=>exact ⟨0,by omega,rfl,HL,hb⟩
  case round =>
   clear hb HL
   obtain ⟨k,hk,rfl,HL,hbw⟩:=hrel
   by_cases hlt:k<3
   ·have hk3:(k:Int)<3:=by omega
    have kD1:=kD _ (h.below hbw) k hlt
    have hst:=Xm rows m hlt
    have HS:Hid (XD rows m k=(!Ya rows m k || XD rows m (k+1))):=hst
    clear hst
    cases hd:Ya rows m k
    ·rw [hd] at kD1
     obtain rfl:fin=true:=by rw [HL.out,HS.out,hd];rfl
     clear HL HS
     go_wp2_with fail
     refine kD1.mono ?_
     rintro e w2 ⟨rfl,d,rfl⟩
     replace hbw:Below w.heap.size w (wr.drewN d):=Zb hbw (ZU _)
     go_wp2
     go_ret
     exact ⟨rfl,hbw⟩
    rw [hd] at kD1
    have HL2:Hid (fin=XD rows m (k+1)):=by rw [Hid,HL.out,HS.out,hd];rfl
    clear HL HS
    go_wp2_with fail
    refine kD1.mono ?_
    rintro e w2 ⟨rfl,d,rfl⟩
    replace hbw:Below w.heap.size w (wr.drewN d):=Zb hbw (ZU _)
    generalize wr.drewN d=W1 at *
    go_wp2
    go_roundw
    case rel=>exact ⟨k+1,by omega,by go_num,HL2,hbw⟩
    case measure=>simp [intOf];omega
   obtain rfl:k=3:=by omega
   obtain rfl:fin=false:=HL.out.trans (Ue _ _)
   clear kD HL
   go_wp2
   go_ret
   exact ⟨rfl,hbw⟩
 obtain rfl:fin=false:=by
  rw [HF.out,decide_eq_false]
  ·rfl
  intro e
  rw [e] at hn
  exact h0 hn.symm
 have hpos:(0:Int)<(n:Int):=by omega
 clear HF hn kD
 go_wp2
 go_ret
 exact ⟨rfl,hb⟩

end Rq


theorem Gs {w:World} {B e s n:Nat} {v:Value} {xs:List Value} (h:w.ownsRow B e s v n xs) (hn:0<n):∃ g c,v=.slice (some ⟨g,0,none⟩) n c∧n≤c∧c≤maxLen:=by
 rcases h.2 with ⟨_,h0⟩ | ⟨g,c,cur,hv,_,_,h1,h2,_⟩
 ·omega
 exact ⟨g,c,hv,h1,h2⟩


theorem Hg:(Tryz.prog.info? 9).map (fun i=>(i.zero,i.size,i.bytes))=some (some (.string ⟨#[]⟩),1,16):=by kernel_rfl
theorem FS (t:ByteArray):∀ u ∈ [Value.string t],u.oneCell'=true:=by intro u hu;simp at hu;subst hu;rfl
theorem F2 {w:World} {B:Nat} {v:Value} {ts:List ByteArray} {t:ByteArray} (h:w.ownsRow B 9 1 v (ts.length+1) (ts.map Value.string++[.string t])):w.ownsRow B 9 1 v (ts++[t]).length ((ts++[t]).map Value.string):=by simpa using h
end Go.Proofs.YtgmhhegckcionaaGreatDoor
