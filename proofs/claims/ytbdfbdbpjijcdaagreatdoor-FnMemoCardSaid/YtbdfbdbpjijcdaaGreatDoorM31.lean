/-
  Joined: KeyB, Ent0, Kit8, Ent2, Ent3.
-/
import Derived.Lib.Hide
import Derived.Test.YtbdfbdbpjijcdaaGreatDoorM14
import Derived.Test.YtbdfbdbpjijcdaaGreatDoorM23

namespace Go.Proofs.YtbdfbdbpjijcdaaGreatDoor
set_option maxRecDepth 100000
set_option maxHeartbeats 16000000
open Go.RowKit
set_option linter.unusedVariables false
set_option linter.unusedSimpArgs false

theorem btV_str6 (xs:List Int) (h:∀ x ∈ xs,0≤x∧x≤255) (i:Nat) (hi:i<xs.length):btV (strOfNums xs) i=xs.getD i 0:=by
 have hx:=h xs[i] (List.getElem_mem hi)
 unfold btV
 simp [strOfNums,List.getD,List.getElem?_eq_getElem hi]
 omega
theorem keyT_size6 {m:V4} (h:shapeOk m=true):(keyT m).size=15:=by
 obtain ⟨l0,l1,l2,l3,_⟩:=shape_parts h
 unfold keyT
 rw [strOfNums_size,List.length_map]
 unfold allOf
 simp [l0,l1,l2,l3]
theorem key_back6 {m:V4} (h:shapeOk m=true):bytesV (keyT m)=m:=by
 obtain ⟨l0,l1,l2,l3,hd⟩:=shape_parts h
 have hb:∀ i,i<15→btV (keyT m) i - 48=(allOf m).getD i 0:=fun i hi=>by
  have hl:(allOf m).length=15:=by unfold allOf;simp [l0,l1,l2,l3]
  unfold keyT
  rw [btV_str6 _ (fun x hx=>by obtain ⟨z,hz,rfl⟩:=List.mem_map.1 hx;have:=hd z hz;omega) i (by rw [List.length_map];omega)]
  have e:((allOf m).map fun z=>48+z).getD i 0=48+(allOf m).getD i 0:=by
   have hi':i<(allOf m).length:=by omega
   simp [List.getD,List.getElem?_eq_getElem hi']
  rw [e]
  omega
 have b0:=hb 0 (by omega)
 have b1:=hb 1 (by omega)
 have b2:=hb 2 (by omega)
 have b3:=hb 3 (by omega)
 have b4:=hb 4 (by omega)
 have b5:=hb 5 (by omega)
 have b6:=hb 6 (by omega)
 have b7:=hb 7 (by omega)
 have b8:=hb 8 (by omega)
 have b9:=hb 9 (by omega)
 have b10:=hb 10 (by omega)
 have b11:=hb 11 (by omega)
 have b12:=hb 12 (by omega)
 have b13:=hb 13 (by omega)
 have b14:=hb 14 (by omega)
 clear hb hd l0 l1 l2 l3
 obtain ⟨p0,p1,p2,v0,v1,v2,v3,h0,h1,x0,y0,x1,y1,x2,y2,rfl⟩:=shape_lists h
 unfold bytesV partV fillL
 simp [List.range_succ,b0,b1,b2,b3,b4,b5,b6,b7,b8,b9,b10,b11,b12,b13,b14]
 simp [allOf]

open Go.RowKit Go.ChangeShapes Go.WideShapes Go.Joins

abbrev E3:=ByteArray × List I3 × List Int
abbrev Sl2:=Sl × Sl
def entV (k:ByteArray) (s:Sl2):Value:=.agg #[.string k,.slice s.1.1 s.1.2.1 s.1.2.2,.slice s.2.1 s.2.2.1 s.2.2.2]
def entC (k:ByteArray) (s:Sl2):List Value:=[.string k,.slice s.1.1 s.1.2.1 s.1.2.2,.slice s.2.1 s.2.2.1 s.2.2.2]
def Nil0 (s:Sl2):Prop:=(s.1.1=none→s.1.2.2=0)∧(s.2.1=none→s.2.2.2=0)
def Emem (w:World) (s:Sl2) (e:E3):Prop:=(e.1.size≤maxLen∧Nil0 s)∧Instrs w s.1.1 s.1.2.1 s.1.2.2 e.2.1∧SlInts w s.2 e.2.2
theorem Emem.below {w w':World} {s:Sl2} {e:E3} (h:Emem w s e) (hb:Below w.heap.size w w'):Emem w' s e:=⟨h.1,h.2.1.below hb,h.2.2.below hb⟩
def e3d:E3:=(ByteArray.empty,[],[])
def Ents (w:World) (a:Option Addr) (len cap:Nat) (es:List E3):Prop:=
 es.length=len∧len≤cap∧cap≤maxLen∧(len=0∨∃ b off,a=some ⟨b,off,none⟩∧b<w.heap.size∧∀ t,t<len →
  ∃ s:Sl2,w.cell? ⟨b,off+t*3,none⟩=some (.string (es.getD t e3d).1)∧w.cell? ⟨b,off+t*3+1,none⟩=some (.slice s.1.1 s.1.2.1 s.1.2.2)∧w.cell? ⟨b,off+t*3+2,none⟩=some (.slice s.2.1 s.2.2.1 s.2.2.2)∧Emem w s (es.getD t e3d))
theorem Ents.below {w w':World} {a:Option Addr} {len cap:Nat} {es:List E3} (h:Ents w a len cap es) (hb:Below w.heap.size w w'):Ents w' a len cap es:=by
 obtain ⟨h1,h2,h3,h4⟩:=h
 refine ⟨h1,h2,h3,?_⟩
 rcases h4 with h4 | ⟨b,off,ha,hlt,hc⟩
 ·exact .inl h4
 ·refine .inr ⟨b,off,ha,by have:=hb.size;omega,fun t ht=>?_⟩
  obtain ⟨s,c0,c1,c2,hm⟩:=hc t ht
  exact ⟨s,by rw [hb.cell (p:=⟨b,_,none⟩) hlt];exact c0,by rw [hb.cell (p:=⟨b,_,none⟩) hlt];exact c1,by rw [hb.cell (p:=⟨b,_,none⟩) hlt];exact c2,hm.below hb⟩

section
variable {H : Type} {enc : TypeId × Value → H} {w : World} {base : Nat} {spare : Nat → Bool} {held : Bool}
end


def RowGot (e:Ending) (w':World) (B:Nat) (xs:List Int):Prop:=∃ v,e=.returned v∧w'.ownsRow B 3 1 v xs.length (xs.map (Value.int .i64))
theorem bel8 {a b c:World} (h:Below a.heap.size a b) (k:Below b.heap.size b c):Below a.heap.size a c:=h.trans (k.mono h.size)
theorem owns8 {B e k n:Nat} {v:Value} {xs:List Value} {w w':World} (h:w.ownsRow B e k v n xs) (hb:Below w.heap.size w w'):w'.ownsRow B e k v n xs:=
 h.kept (row:=none) ⟨hb.os,hb.tape,hb.output,hb.size,fun i hi _=>hb.block i hi⟩ (by cases v.ownBlock<;>simp)
theorem cell8 {w w':World} (h:Below w.heap.size w w') {p:Addr} {v:Value} (hv:w.cell? p=some v):w'.cell? p=some v:=by
 rw [h.cell (World.block_lt_of_cell? _ _ hv)]
 exact hv
theorem grown8 {w w':World} {row:Option Nat} (g:w.grownBy w' row) {p:Addr} {v:Value} (hc:w.cell? p=some v) (hne:some p.block≠row):w'.cell? p=some v:=by
 have hl:=World.block_lt_of_cell? _ _ hc
 rw [← hc]
 unfold World.cell?
 rw [g.block p.block hl hne]
theorem lower8 {w:World} {B B' e s n:Nat} {v:Value} {cs:List Value} (h:w.ownsRow B e s v n cs) (hB:B'≤B):w.ownsRow B' e s v n cs:=by
 refine ⟨h.1,?_⟩
 rcases h.2 with h0 | ⟨g,cap,cur,hv,hg,rest⟩
 ·exact .inl h0
 ·exact .inr ⟨g,cap,cur,hv,by omega,rest⟩
theorem some8 {w:World} {B e s n:Nat} {v:Value} {cs:List Value} (h:w.ownsRow B e s v n cs) (hn:0<n):∃ g c,v=.slice (some ⟨g,0,none⟩) n c:=by
 rcases h.2 with ⟨rfl,h0⟩ | ⟨g,cap,cur,hv,_⟩
 ·omega
 ·exact ⟨g,cap,hv⟩
theorem slice8 {w:World} {B e s n:Nat} {v:Value} {cs:List Value} (h:w.ownsRow B e s v n cs):∃ a c,v=.slice a n c:=by
 rcases h.2 with ⟨rfl,h0⟩ | ⟨g,cap,cur,hv,_⟩
 ·subst h0;exact ⟨none,0,rfl⟩
 ·exact ⟨some ⟨g,0,none⟩,cap,hv⟩
theorem empty8 (w:World) (t s B:Nat) (hB:B≤w.heap.size):(w.alloc (.cells #[] t)).ownsRow B t s (.slice (some ⟨w.heap.size,0,none⟩) 0 0) 0 []:=World.ownsRow_lit w #[] 0 hB (by unfold maxLen;omega) (by simp)
theorem ints8 {w:World} {B n c:Nat} {a:Option Addr} {xs:List Int} (h:w.ownsRow B 3 1 (.slice a n c) n (xs.map (Value.int .i64))):Ints .i64 w a n c xs:=by
 rcases h.2 with ⟨e,h0⟩ | ⟨b,cc,cur,e,h1,h2,h3,h4⟩
 ·cases e
  have hl:=h.1
  exact ⟨by simpa using hl,Nat.le_refl _,by unfold maxLen;omega,.inl rfl⟩
 ·cases e
  exact Ints.of_owns h
theorem news8 {w:World} {b off n c:Nat} {xs:List Int} (h:Ints .i64 w (some ⟨b,off,none⟩) n c xs):∀ j u,(xs.map (Value.int .i64))[j]?=some u→w.cell? ((⟨b,off,none⟩:Addr).add j)=some u:=by
 intro j u hj
 obtain ⟨hl,_,_,hcase⟩:=h
 have hjl:j<xs.length:=by simpa using (List.getElem?_eq_some_iff.1 hj).1
 rcases hcase with h0 | ⟨b',off',he,hb,hc⟩
 ·omega
 ·cases he
  have:=hc j (by omega)
  have e:(⟨b,off,none⟩:Addr).add j=⟨b,off+j,none⟩:=by unfold Addr.add;split<;>simp_all
  rw [e,this]
  simp [List.getElem?_eq_getElem hjl] at hj
  simp [List.getD,List.getElem?_eq_getElem hjl,hj]
theorem one8 (xs:List Int):∀ u ∈ xs.map (Value.int .i64),u.oneCell'=true:=by
 intro u hu
 obtain ⟨x,_,rfl⟩:=List.mem_map.1 hu
 rfl
theorem step_app8 {P:Program} {ops:Array Oper} {o:Oper} {a:Act} {w:World} {K:Act→World→Prop} {Q:Exit→Act→World→Prop} {E:Prop}
  (hg:o.guard=none) (s x:Operand) (t:TypeId) (hop:o.op=Op.call { callee:=Callee.builtin Builtin.append,args:=#[s,x],argTypes:=#[t,t] })
  (base:Nat) (e:TypeId) (i:TypeInfo) (z:Value) (size bytes:Nat) (h1:P.underlying t=some (.slice e)) (h2:P.info? e=some i) (h3:i.zero=some z) (h4:i.size=size) (h5:i.bytes=bytes) (h6:z.cells.size=size) (h7:0<size)
  (v:Value) (n:Nat) (olds:List Value) (hs:a.eval s=v) (hown:w.ownsRow base e size v n olds)
  (ad:Addr) (m c:Nat) (news:List Value) (hx:a.eval x=.slice (some ad) m c) (hn:news.length=m*size) (hc:∀ j u,news[j]?=some u→w.cell? (ad.add j)=some u) (h1c:∀ u ∈ news,u.oneCell'=true)
  (b1:n+m≤maxLen) (b2:(n+m)*bytes≤140737488355328) (hbw:base≤w.heap.size)
  (hK:∀ v' w',w'.ownsRow base e size v' (n+m) (olds++news)→w.grownBy w' v.ownBlock→(v'.ownBlock=v.ownBlock∨v'.ownBlock=some w.heap.size)→K (a.put o.dst v') w') :
  if Region.wanted o (yielded ops a.tmps)=true then Oper.wp P o a w K Q else E:=by
 have hw:Region.wanted o (yielded ops a.tmps)=true:=by simp [Region.wanted,hg]
 rw [if_pos hw]
 obtain ⟨v',w',hrun,r1,r2,_,r4⟩:=run_append_own_at (P:=P) (w:=w) base t o.type e i z size bytes h1 h2 h3 h4 h5 h6 h7 v n olds hown ad m c news hn hc h1c b1 b2 hbw
 subst hs
 unfold Oper.wp
 simp [execOp,hop,resolve,invoke,builtin,hx,hrun,Result.andThen]
 exact hK v' w' r1 r2 r4
theorem slice_h8 {w:World} {b off len cap hi:Nat} {xs:List Int} (h:Ints .i64 w (some ⟨b,off,none⟩) len cap xs) (h2:hi≤len) :
  (∀ W,(Instr.slice 36 (.slice (some ⟨b,off,none⟩) len cap) none (some (.int .i64 (hi:Int))) none).run Tryz.prog W=.ok (.slice (some ⟨b,off,none⟩) hi cap) W)∧Ints .i64 w (some ⟨b,off,none⟩) hi cap (xs.take hi):=by
 obtain ⟨hl,hlc,hcm,hcase⟩:=h
 have hhc:(hi:Int)≤(cap:Int):=by omega
 refine ⟨fun W=>?_,by rw [List.length_take];omega,by omega,by omega,?_⟩
 ·go_simp
  try omega
 ·rcases hcase with h0 | ⟨b',off',he,hb,hc⟩
  ·exact .inl (by omega)
  ·cases he
   refine .inr ⟨b,off,rfl,hb,fun t ht=>?_⟩
   rw [hc t (by omega)]
   simp [List.getD,ht]
theorem slice_l8 {w:World} {b off len cap lo:Nat} {xs:List Int} (h:Ints .i64 w (some ⟨b,off,none⟩) len cap xs) (h1:lo≤len) :
  ∃ o2,(∀ W,(Instr.slice 36 (.slice (some ⟨b,off,none⟩) len cap) (some (.int .i64 (lo:Int))) none none).run Tryz.prog W=.ok (.slice (some ⟨b,o2,none⟩) (len - lo) (cap - lo)) W)∧Ints .i64 w (some ⟨b,o2,none⟩) (len - lo) (cap - lo) (xs.drop lo):=by
 obtain ⟨hl,hlc,hcm,hcase⟩:=h
 have hlh:(lo:Int)≤(len:Int):=by omega
 by_cases hz:cap - lo=0
 ·refine ⟨off,fun W=>?_,by rw [List.length_drop];omega,by omega,by omega,.inl (by omega)⟩
  go_simp
  omega
 ·refine ⟨off+lo,fun W=>?_,by rw [List.length_drop];omega,by omega,by omega,?_⟩
  ·go_simp
   omega
  ·rcases hcase with h0 | ⟨b',off',he,hb,hc⟩
   ·exact .inl (by omega)
   ·cases he
    refine .inr ⟨b,off+lo,rfl,hb,fun t ht=>?_⟩
    have:=hc (lo+t) (by omega)
    rw [show off+lo+t=off+(lo+t) by omega,this]
    simp [List.getD]


def OwnE (w:World) (B:Nat) (vb vf:Value) (e:E3):Prop:=w.ownsRow B 158 3 vb e.2.1.length (flat e.2.1)∧w.ownsRow B 3 1 vf e.2.2.length (e.2.2.map (Value.int .i64))
theorem OwnE.below {w w':World} {B:Nat} {vb vf:Value} {e:E3} (h:OwnE w B vb vf e) (hb:Below w.heap.size w w'):OwnE w' B vb vf e:=⟨owns8 h.1 hb,owns8 h.2 hb⟩
theorem OwnE.lower {w:World} {B B':Nat} {vb vf:Value} {e:E3} (h:OwnE w B vb vf e) (hB:B'≤B):OwnE w B' vb vf e:=⟨lower8 h.1 hB,lower8 h.2 hB⟩
theorem OwnE.slices {w:World} {B:Nat} {vb vf:Value} {e:E3} (h:OwnE w B vb vf e):∃ s:Sl2,vb=.slice s.1.1 s.1.2.1 s.1.2.2∧vf=.slice s.2.1 s.2.2.1 s.2.2.2:=by
 obtain ⟨a,c,e1⟩:=slice8 h.1
 obtain ⟨a',c',e2⟩:=slice8 h.2
 exact ⟨((a,_,c),(a',_,c')),e1,e2⟩
theorem Instrs.of_ownB9 {w:World} {B:Nat} {v:Value} {xs:List I3} (h:w.ownsRow B 158 3 v xs.length (flat xs)) (hf:∀ x ∈ xs,I3.fits x):∃ a cap,v=.slice a xs.length cap∧Instrs w a xs.length cap xs:=by
 rcases h.2 with ⟨hv,h0⟩ | ⟨g,cap,cur,hv,_⟩
 ·obtain rfl:xs=[]:=List.eq_nil_of_length_eq_zero h0
  exact ⟨none,0,hv,rfl,Nat.le_refl _,by unfold maxLen;omega,by simp,.inl rfl⟩
 ·subst hv
  exact ⟨_,_,rfl,Instrs.of_owns h rfl hf rfl⟩
def E3.fits (e:E3):Prop:=e.1.size≤maxLen∧(∀ x ∈ e.2.1,I3.fits x)∧∀ z ∈ e.2.2,(Lit.int .i64 z).wf=true
theorem Emem.fits {w:World} {s:Sl2} {e:E3} (h:Emem w s e):e.fits:=⟨h.1.1,h.2.1.2.2.2.1,h.2.2.2⟩
theorem own_nil0 {w:World} {B e s n:Nat} {a:Option Addr} {m c:Nat} {xs:List Value} (h:w.ownsRow B e s (.slice a m c) n xs):a=none→c=0:=by
 rcases h.2 with ⟨hv,_⟩ | ⟨g,cap,cur,hv,_⟩
 ·injection hv with e1 e2 e3
  exact fun _=>e3
 ·injection hv with e1 e2 e3
  intro ha
  rw [ha] at e1
  cases e1
theorem OwnE.mem {w:World} {B:Nat} {s:Sl2} {e:E3} (h:OwnE w B (.slice s.1.1 s.1.2.1 s.1.2.2) (.slice s.2.1 s.2.2.1 s.2.2.2) e) (hf:e.fits):Emem w s e:=by
 obtain ⟨⟨a1,n1,c1⟩,⟨a2,n2,c2⟩⟩:=s
 obtain ⟨h1,h2⟩:=h
 simp only at h1 h2
 refine ⟨⟨hf.1,own_nil0 h1,own_nil0 h2⟩,?_,?_,hf.2.2⟩
 ·obtain ⟨a,cap,hv,hI⟩:=Instrs.of_ownB9 h1 hf.2.1
  injection hv with e1 e2 e3
  subst e1 e2 e3
  exact hI
 ·obtain ⟨a,cap,hv⟩:=slice8 h2
  injection hv with e1 e2 e3
  subst e1 e2 e3
  exact ints8 h2


theorem info_entry:(Tryz.prog.info? 45).map (fun i=>(i.zero,i.size,i.bytes))=some (some (.agg #[.string ⟨#[]⟩,.slice none 0 0,.slice none 0 0]),3,64):=by kernel_rfl

def Aprt (u v:Value):Prop:=u.ownBlock=none∨u.ownBlock≠v.ownBlock
def EntsTo (w:World) (B k:Nat) (cs:List Value) (es:List E3):Prop:=
 (∀ t,t<k→cs[t*3]?=some (.string (es.getD t e3d).1)∧OwnE w B (cs.getD (t*3+1) undef) (cs.getD (t*3+2) undef) (es.getD t e3d)) ∧
 ∀ t t',t<k→t'<k→t≠t'→Aprt (cs.getD (t*3+1) undef) (cs.getD (t'*3+1) undef)∧Aprt (cs.getD (t*3+2) undef) (cs.getD (t'*3+2) undef)
theorem EntsTo.below {w w':World} {B k:Nat} {cs:List Value} {es:List E3} (h:EntsTo w B k cs es) (hb:Below w.heap.size w w'):EntsTo w' B k cs es:=⟨fun t ht=>⟨(h.1 t ht).1,(h.1 t ht).2.below hb⟩,h.2⟩
theorem OwnE.setP {w:World} {B P j:Nat} {vb vf:Value} {e:E3} (h:OwnE w B vb vf e) (h1:vb.ownBlock≠some P) (h2:vf.ownBlock≠some P) (u:Value):OwnE (w.setCell ⟨P,j,none⟩ u) B vb vf e:=
 ⟨ownsRow_setCell_other h.1 h1 u,ownsRow_setCell_other h.2 h2 u⟩
theorem aprt_new {w:World} {B B' e s n:Nat} {u v:Value} {xs:List Value} (hu:w.ownsRow B e s u n xs) (hv:∀ x,v.ownBlock=some x→w.heap.size≤x):Aprt u v∧Aprt v u:=by
 constructor
 ·rcases hb:u.ownBlock with _ | x
  ·exact .inl hb
  ·refine .inr ?_
   rw [hb]
   intro h
   have:=(hu.lt x hb).2
   have:=hv x h.symm
   omega
 ·rcases hb:v.ownBlock with _ | x
  ·exact .inl hb
  ·refine .inr ?_
   rw [hb]
   intro h
   have:=(hu.lt x h.symm).2
   have:=hv x hb
   omega
theorem getD_set3 {cs:List Value} {i:Nat} {a b c:Value} (h:i+2<cs.length) :
  (∀ j,j<i∨i+2<j→(((cs.set i a).set (i+1) b).set (i+2) c)[j]?=cs[j]?)∧(((cs.set i a).set (i+1) b).set (i+2) c)[i]?=some a∧(((cs.set i a).set (i+1) b).set (i+2) c)[i+1]?=some b∧(((cs.set i a).set (i+1) b).set (i+2) c)[i+2]?=some c:=by
 refine ⟨fun j hj=>?_,?_,?_,?_⟩
 ·rw [List.getElem?_set_ne (by omega),List.getElem?_set_ne (by omega),List.getElem?_set_ne (by omega)]
 ·rw [List.getElem?_set_ne (by omega),List.getElem?_set_ne (by omega),List.getElem?_set_self (by omega)]
 ·rw [List.getElem?_set_ne (by omega),List.getElem?_set_self (by simp;omega)]
 ·rw [List.getElem?_set_self (by simp;omega)]
theorem EntsTo.put {w w':World} {B P k:Nat} {cs:List Value} {es:List E3} {vb vf:Value} (h:EntsTo w B k cs es) (hb:Below w.heap.size w w') (hk:k*3+2<cs.length)
  (hn:OwnE w' w.heap.size vb vf (es.getD k e3d)) (hB:B≤w.heap.size) (hP:P<w.heap.size) (hPn:∀ t,t<k→(cs.getD (t*3+1) undef).ownBlock≠some P∧(cs.getD (t*3+2) undef).ownBlock≠some P) :
  EntsTo (((w'.setCell ⟨P,k*3,none⟩ (.string (es.getD k e3d).1)).setCell ⟨P,k*3+1,none⟩ vb).setCell ⟨P,k*3+2,none⟩ vf) B (k+1) (((cs.set (k*3) (.string (es.getD k e3d).1)).set (k*3+1) vb).set (k*3+2) vf) es:=by
 obtain ⟨g1,g2,g3,g4⟩:=getD_set3 (a:=.string (es.getD k e3d).1) (b:=vb) (c:=vf) hk
 generalize ((cs.set (k*3) (.string (es.getD k e3d).1)).set (k*3+1) vb).set (k*3+2) vf=ds at *
 have old:∀ t,t<k→ds[t*3]?=cs[t*3]?∧ds.getD (t*3+1) undef=cs.getD (t*3+1) undef∧ds.getD (t*3+2) undef=cs.getD (t*3+2) undef:=fun t ht =>
  ⟨g1 _ (by omega),by rw [List.getD,List.getD,g1 _ (by omega)],by rw [List.getD,List.getD,g1 _ (by omega)]⟩
 have nb:ds.getD (k*3+1) undef=vb:=by rw [List.getD,g3];rfl
 have nf:ds.getD (k*3+2) undef=vf:=by rw [List.getD,g4];rfl
 have lb:∀ x,vb.ownBlock=some x→w.heap.size≤x:=fun x hx=>(hn.1.lt x hx).1
 have lf:∀ x,vf.ownBlock=some x→w.heap.size≤x:=fun x hx=>(hn.2.lt x hx).1
 have pb:vb.ownBlock≠some P:=fun e=>by have:=lb P e;omega
 have pf:vf.ownBlock≠some P:=fun e=>by have:=lf P e;omega
 refine ⟨fun t ht=>?_,fun t t' ht ht' hne=>?_⟩
 ·by_cases e:t=k
  ·subst e
   rw [nb,nf]
   exact ⟨g2,(((hn.lower hB).setP pb pf _).setP pb pf _).setP pb pf _⟩
  ·obtain ⟨o1,o2,o3⟩:=old t (by omega)
   obtain ⟨h1,h2⟩:=h.1 t (by omega)
   obtain ⟨q1,q2⟩:=hPn t (by omega)
   rw [o1,o2,o3]
   exact ⟨h1,(((h2.below hb).setP q1 q2 _).setP q1 q2 _).setP q1 q2 _⟩
 ·by_cases e:t=k
  ·subst e
   obtain ⟨_,o2,o3⟩:=old t' (by omega)
   obtain ⟨_,h2⟩:=h.1 t' (by omega)
   rw [nb,nf,o2,o3]
   exact ⟨(aprt_new (B':=0) h2.1 lb).2,(aprt_new (B':=0) h2.2 lf).2⟩
  ·obtain ⟨_,o2,o3⟩:=old t (by omega)
   by_cases e':t'=k
   ·subst e'
    obtain ⟨_,h2⟩:=h.1 t (by omega)
    rw [nb,nf,o2,o3]
    exact ⟨(aprt_new (B':=0) h2.1 lb).1,(aprt_new (B':=0) h2.2 lf).1⟩
   ·obtain ⟨_,o2',o3'⟩:=old t' (by omega)
    rw [o2,o3,o2',o3']
    exact h.2 t t' (by omega) (by omega) hne

def OwnM (w:World) (B:Nat) (v:Value) (es:List E3):Prop:=∃ cs,w.ownsRow B 45 3 v es.length cs∧EntsTo w B es.length cs es
theorem OwnM.below {w w':World} {B:Nat} {v:Value} {es:List E3} (h:OwnM w B v es) (hb:Below w.heap.size w w'):OwnM w' B v es:=by
 obtain ⟨cs,h1,h2⟩:=h
 exact ⟨cs,owns8 h1 hb,h2.below hb⟩
theorem OwnM.ents {w:World} {B:Nat} {a:Option Addr} {len cap:Nat} {es:List E3} (h:OwnM w B (.slice a len cap) es) (hf:∀ e ∈ es,e.fits):Ents w a len cap es:=by
 obtain ⟨cs,h1,h2⟩:=h
 rcases h1.2 with ⟨hv,h0⟩ | ⟨g,cap',cur,hv,_,hh,hn,hcm,_⟩
 ·injection hv with e1 e2 e3
  subst e1 e2 e3
  obtain rfl:es=[]:=List.eq_nil_of_length_eq_zero h0
  exact ⟨rfl,Nat.le_refl _,by unfold maxLen;omega,.inl rfl⟩
 ·injection hv with e1 e2 e3
  subst e1 e2 e3
  have hl:=h1.1
  refine ⟨rfl,hn,hcm,.inr ⟨g,0,rfl,(h1.lt g rfl).2,fun t ht=>?_⟩⟩
  have hc:=fun j (hj:j<es.length*3)=>h1.cellAt j hj
  obtain ⟨k1,k2⟩:=h2.1 t ht
  obtain ⟨s,e1,e2⟩:=k2.slices
  have hg:∀ j,j<cs.length→cs[j]?=some (cs.getD j undef):=fun j hj=>by simp [List.getD,List.getElem?_eq_getElem hj]
  refine ⟨s,?_,?_,?_,?_⟩
  ·rw [Nat.zero_add,hc _ (by omega)];exact k1
  ·rw [Nat.zero_add,hc _ (by omega),hg _ (by omega),e1]
  ·rw [Nat.zero_add,hc _ (by omega),hg _ (by omega),e2]
  ·rw [e1,e2] at k2
   exact k2.mem (hf _ (by simp [List.getD,List.getElem?_eq_getElem ht]))
theorem Ents.fits {w:World} {a:Option Addr} {len cap:Nat} {es:List E3} (h:Ents w a len cap es):∀ e ∈ es,e.fits:=by
 intro e he
 obtain ⟨t,ht,rfl⟩:=List.getElem_of_mem he
 obtain ⟨h1,_,_,hc⟩:=h
 rcases hc with h0 | ⟨b,off,_,_,hc⟩
 ·omega
 ·obtain ⟨s,_,_,_,hm⟩:=hc t (by omega)
  have e2:es.getD t e3d=es[t]:=by simp [List.getD,List.getElem?_eq_getElem ht]
  rw [e2] at hm
  exact hm.fits

theorem OwnE.low {w:World} {B:Nat} {vb vf:Value} {e:E3} (h:OwnE w B vb vf e) {p:Addr} (hp:p.block<B) (u:Value):OwnE (w.setCell p u) B vb vf e:=⟨ownsRow_setCell_below h.1 hp u,ownsRow_setCell_below h.2 hp u⟩
theorem OwnM.low {w:World} {B:Nat} {v:Value} {es:List E3} (h:OwnM w B v es) {p:Addr} (hp:p.block<B) (u:Value):OwnM (w.setCell p u) B v es:=by
 obtain ⟨cs,h1,h2,h3⟩:=h
 exact ⟨cs,ownsRow_setCell_below h1 hp u,fun t ht=>⟨(h2 t ht).1,(h2 t ht).2.low hp u⟩,h3⟩
end Go.Proofs.YtbdfbdbpjijcdaaGreatDoor
