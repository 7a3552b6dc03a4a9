/-
  Joined: SpecO, VmI, VmOKI, MachO.
-/
import Derived.Maps.AppendAt
import Derived.Test.YtifoggpohlegmaaGreatDoorA07

namespace Go.Proofs.YtifoggpohlegmaaGreatDoor
set_option maxRecDepth 100000
set_option maxHeartbeats 16000000
open Go.RowKit
set_option linter.unusedVariables false
set_option linter.unusedSimpArgs false

def VmOne (e:Ending) (w:World) (B:Nat) (z:V4):Prop:=∃ t:S4,e=.returned t.val∧OwnV w B t z
theorem VmOne.mk9 {e:Ending} {w:World} {B:Nat} {z:V4} (t:S4) (h:e=.returned t.val) (hO:OwnV w B t z):VmOne e w B z:=⟨t,h,hO⟩

theorem wpAnyH_inv {P:Program} {md:Region.Mode} {ops:Array Oper} {Q:Exit→Act→World→Prop} {S:World→Prop} (I:Nat→Array Bool→Act→World→Prop) (k:Nat)
  (hne:∀ n listed a w,I (n+1) listed a w→Region.ready md ops listed≠[])
  (hstep:∀ n listed a w,I (n+1) listed a w→∀ i ∈ Region.ready md ops listed,wpOp P ops Q i (fun a' w'=>S w'∧I n (listed.setIfInBounds i true) a' w') a w)
  (hend:∀ listed a w,I 0 listed a w→wpAnyH P md ops Q S k listed a w):∀ n listed a w,I n listed a w→wpAnyH P md ops Q S (n+k) listed a w
 | 0,listed,a,w,h=>by rw [Nat.zero_add];exact hend listed a w h
 | n+1,listed,a,w,h=>by
  rw [show n+1+k=(n+k)+1 by omega]
  refine ⟨fun h0=>absurd h0 (hne n listed a w h),fun i hi=>wpOp_mono (fun a' w' h'=>⟨h'.1,wpAnyH_inv I k hne hstep hend n _ a' w' h'.2⟩) (hstep n listed a w h i hi)⟩

theorem step_append_at {P:Program} {ops:Array Oper} {o:Oper} {a:Act} {w:World} {K:Act→World→Prop} {Q:Exit→Act→World→Prop} {E:Prop}
  (hg:o.guard=none) (s x:Operand) (t:TypeId) (hop:o.op=Op.call { callee:=Callee.builtin Builtin.append,args:=#[s,x],argTypes:=#[t,t] })
  (base:Nat) (e:TypeId) (i:TypeInfo) (z:Value) (size bytes:Nat) (h1:P.underlying t=some (.slice e)) (h2:P.info? e=some i) (h3:i.zero=some z) (h4:i.size=size) (h5:i.bytes=bytes) (h6:z.cells.size=size) (h7:0<size)
  (v:Value) (n:Nat) (olds:List Value) (hs:a.eval s=v) (hown:w.ownsRow base e size v n olds)
  (ad:Addr) (m c:Nat) (news:List Value) (hx:a.eval x=.slice (some ad) m c) (hn:news.length=m*size) (hc:∀ j u,news[j]?=some u→w.cell? (ad.add j)=some u) (h1c:∀ u ∈ news,u.oneCell'=true)
  (b1:n+m≤maxLen) (b2:(n+m)*bytes≤140737488355328) (hbw:base≤w.heap.size)
  (hK:∀ v' w',w'.ownsRow base e size v' (n+m) (olds++news)→w.grownBy w' v.ownBlock→(v'.ownBlock=v.ownBlock∨v'.ownBlock=some w.heap.size)→K (a.put o.dst v') w') :
  if Region.wanted o (yielded ops a.tmps)=true then Oper.wp P o a w K Q else E:=by
 have hw:Region.wanted o (yielded ops a.tmps)=true:=by simp [Region.wanted,hg]
 rw [if_pos hw]
 obtain ⟨v',w',hrun,r1,r2,_,r4⟩:=run_append_own_at (P:=P) (w:=w) base t o.type e i z size bytes h1 h2 h3 h4 h5 h6 h7 v n olds hown ad m c news hn hc h1c b1 b2 hbw
 subst hs
 unfold Oper.wp
 simp [execOp,hop,resolve,invoke,builtin,hx,hrun,Result.andThen]
 exact hK v' w' r1 r2 r4

def Chain (W:World) (B:Nat) (e d:Bool) (x y v:Value) (zs:List Int):Prop:=
 (d=true→e=true∧y=v∧W.ownsRow B 3 1 v zs.length (zs.map (Value.int .i64)))∧(d=false→e=true→x=v∧W.ownsRow B 3 1 v 0 [])∧(e=false→d=false∧v=.slice none 0 0)
def Ap (v u:Value):Prop:=∀ g,v.ownBlock=some g→u.ownBlock≠some g
theorem Ap.symm {v u:Value} (h:Ap v u):Ap u v:=fun g h1 h2=>h g h2 h1
def cn1 (b:Bool):Nat:=if b then 0 else 1
theorem Chain.row {W:World} {B:Nat} {e d:Bool} {x y v:Value} {zs:List Int} (h:Chain W B e d x y v zs):∃ n xs,W.ownsRow B 3 1 v n xs:=by
 cases d
 ·cases e
  ·obtain ⟨_,rfl⟩:=h.2.2 rfl
   exact ⟨0,[],World.ownsRow_nil _ _ _ _⟩
  ·exact ⟨_,_,(h.2.1 rfl rfl).2⟩
 ·exact ⟨_,_,(h.1 rfl).2.2⟩
theorem Chain.lt {W:World} {B:Nat} {e d:Bool} {x y v:Value} {zs:List Int} (h:Chain W B e d x y v zs) {g:Nat} (hg:v.ownBlock=some g):g<W.heap.size:=by
 obtain ⟨n,xs,hr⟩:=h.row
 exact (hr.lt g hg).2
theorem Chain.kept {W W':World} {B:Nat} {e d:Bool} {x y v u:Value} {zs:List Int} (h:Chain W B e d x y v zs) (hg:W.grownBy W' u.ownBlock) (ha:Ap v u):Chain W' B e d x y v zs:=by
 have hn:v.ownBlock=none∨v.ownBlock≠u.ownBlock:=by
  cases hv:v.ownBlock with
  | none=>exact .inl rfl
  | some g=>exact .inr fun e=>ha g hv e.symm
 exact ⟨fun h1=>⟨(h.1 h1).1,(h.1 h1).2.1,(h.1 h1).2.2.kept hg hn⟩,fun h1 h2=>⟨(h.2.1 h1 h2).1,(h.2.1 h1 h2).2.kept hg hn⟩,h.2.2⟩
theorem Chain.new {W:World} {B:Nat} {e d:Bool} {x y v:Value} {zs:List Int} (h:Chain W B e d x y v zs) (ob:Obj):Chain (W.alloc ob) B e d x y v zs:=
 ⟨fun h1=>⟨(h.1 h1).1,(h.1 h1).2.1,(h.1 h1).2.2.alloc _⟩,fun h1 h2=>⟨(h.2.1 h1 h2).1,(h.2.1 h1 h2).2.alloc _⟩,h.2.2⟩
theorem Ap.new {W:World} {B:Nat} {e d:Bool} {x y v:Value} {zs:List Int} (h:Chain W B e d x y v zs) (n c:Nat):Ap v (.slice (some ⟨W.heap.size,0,none⟩) n c):=fun g hg h2=>by
 have:=h.lt hg
 simp [Value.ownBlock] at h2
 omega
theorem Ap.grown {W:World} {B:Nat} {e d:Bool} {x y v u u':Value} {zs:List Int} (h:Chain W B e d x y v zs) (ha:Ap v u) (hu:u'.ownBlock=u.ownBlock∨u'.ownBlock=some W.heap.size):Ap v u':=fun g hg h2=>by
 rcases hu with hu | hu
 ·exact ha g hg (hu▸h2)
 ·have:=h.lt hg
  rw [hu] at h2
  simp at h2
  omega

def InvO (w:World) (b0 o0 c0 b1 o1 c1 b2 o2 c2 b3 o3 c3:Nat) (m:V4) (n:Nat) (listed:Array Bool) (a:Act) (W:World):Prop:=
 ∃ (e0 e1 e2 e3 d0 d1 d2 d3:Bool) (x0 x1 x2 x3 y0 y1 y2 y3 v0 v1 v2 v3:Value),
  n=cn1 e0+cn1 d0+(cn1 e1+cn1 d1)+(cn1 e2+cn1 d2)+(cn1 e3+cn1 d3)∧listed=#[e0,true,true,d0,e1,true,true,d1,e2,true,true,d2,e3,true,true,d3,false,false]∧a={ tmps:=#[.agg #[.slice (some ⟨b0,o0,none⟩) 3 c0,.slice (some ⟨b1,o1,none⟩) 4 c1,.slice (some ⟨b2,o2,none⟩) 2 c2,.slice (some ⟨b3,o3,none⟩) 6 c3],.pointer (some ⟨w.heap.size,0,none⟩),.pointer (some ⟨w.heap.size+1,0,none⟩),x0,.pointer (some ⟨w.heap.size,0,none⟩),.slice (some ⟨b0,o0,none⟩) 3 c0,y0,x1,.pointer (some ⟨w.heap.size,1,none⟩),.slice (some ⟨b1,o1,none⟩) 4 c1,y1,x2,.pointer (some ⟨w.heap.size,2,none⟩),.slice (some ⟨b2,o2,none⟩) 2 c2,y2,x3,.pointer (some ⟨w.heap.size,3,none⟩),.slice (some ⟨b3,o3,none⟩) 6 c3,y3,undef],defers:=[] } ∧
  (Chain W w.heap.size e0 d0 x0 y0 v0 m.1∧Chain W w.heap.size e1 d1 x1 y1 v1 m.2.1∧Chain W w.heap.size e2 d2 x2 y2 v2 m.2.2.1∧Chain W w.heap.size e3 d3 x3 y3 v3 m.2.2.2) ∧
  (Ap v0 v1∧Ap v0 v2∧Ap v0 v3∧Ap v1 v2∧Ap v1 v3∧Ap v2 v3) ∧
  Blk W w.heap.size 33 [.slice (some ⟨b0,o0,none⟩) 3 c0,.slice (some ⟨b1,o1,none⟩) 4 c1,.slice (some ⟨b2,o2,none⟩) 2 c2,.slice (some ⟨b3,o3,none⟩) 6 c3]∧Blk W (w.heap.size+1) 33 [.slice none 0 0,.slice none 0 0,.slice none 0 0,.slice none 0 0]∧Below w.heap.size w W

theorem l03Own_is (s:S4) (m:V4) (w:World) (h:Vmem w s m) (hs:shapeOk m=true) :
  Calls Tryz.prog 154 #[s.val] w fun e w'=>VmOne e w' w.heap.size m∧Below w.heap.size w w':=by
 obtain ⟨i0,hi,hz0,hz1,hz2⟩:=info_parts info_int
 obtain ⟨l0,l1,l2,l3,_⟩:=shape_parts hs
 obtain ⟨⟨j0,_⟩,⟨j1,_⟩,⟨j2,_⟩,⟨j3,_⟩⟩:=h
 obtain ⟨⟨a0,n0,c0⟩,⟨a1,n1,c1⟩,⟨a2,n2,c2⟩,⟨a3,n3,c3⟩⟩:=s
 simp only at j0 j1 j2 j3
 obtain ⟨rfl,b0,o0,rfl⟩:=some_of_ints j0 l0 (by omega)
 obtain ⟨rfl,b1,o1,rfl⟩:=some_of_ints j1 l1 (by omega)
 obtain ⟨rfl,b2,o2,rfl⟩:=some_of_ints j2 l2 (by omega)
 obtain ⟨rfl,b3,o3,rfl⟩:=some_of_ints j3 l3 (by omega)
 have uA:S4.val ((some ⟨b0,o0,none⟩,3,c0),(some ⟨b1,o1,none⟩,4,c1),(some ⟨b2,o2,none⟩,2,c2),(some ⟨b3,o3,none⟩,6,c3))=.agg #[.slice (some ⟨b0,o0,none⟩) 3 c0,.slice (some ⟨b1,o1,none⟩) 4 c1,.slice (some ⟨b2,o2,none⟩) 2 c2,.slice (some ⟨b3,o3,none⟩) 6 c3]:=rfl
 rw [uA]
 clear uA
 have bw:Below w.heap.size w ((w.alloc (.cells #[.slice (some ⟨b0,o0,none⟩) 3 c0,.slice (some ⟨b1,o1,none⟩) 4 c1,.slice (some ⟨b2,o2,none⟩) 2 c2,.slice (some ⟨b3,o3,none⟩) 6 c3] 33)).alloc (.cells #[.slice none 0 0,.slice none 0 0,.slice none 0 0,.slice none 0 0] 33)):=by go_grown
 have pP:Blk ((w.alloc (.cells #[.slice (some ⟨b0,o0,none⟩) 3 c0,.slice (some ⟨b1,o1,none⟩) 4 c1,.slice (some ⟨b2,o2,none⟩) 2 c2,.slice (some ⟨b3,o3,none⟩) 6 c3] 33)).alloc (.cells #[.slice none 0 0,.slice none 0 0,.slice none 0 0,.slice none 0 0] 33)) w.heap.size 33 [.slice (some ⟨b0,o0,none⟩) 3 c0,.slice (some ⟨b1,o1,none⟩) 4 c1,.slice (some ⟨b2,o2,none⟩) 2 c2,.slice (some ⟨b3,o3,none⟩) 6 c3]:=blkOld _ (blkAt _ _ _ rfl)
 have pR:Blk ((w.alloc (.cells #[.slice (some ⟨b0,o0,none⟩) 3 c0,.slice (some ⟨b1,o1,none⟩) 4 c1,.slice (some ⟨b2,o2,none⟩) 2 c2,.slice (some ⟨b3,o3,none⟩) 6 c3] 33)).alloc (.cells #[.slice none 0 0,.slice none 0 0,.slice none 0 0,.slice none 0 0] 33)) (w.heap.size+1) 33 [.slice none 0 0,.slice none 0 0,.slice none 0 0,.slice none 0 0]:=blkAt _ _ _ (by simp)
 go_enter Tryz.func154,Tryz.ntmps154
 go_wp2_with fail
 generalize ((w.alloc (.cells #[.slice (some ⟨b0,o0,none⟩) 3 c0,.slice (some ⟨b1,o1,none⟩) 4 c1,.slice (some ⟨b2,o2,none⟩) 2 c2,.slice (some ⟨b3,o3,none⟩) 6 c3] 33)).alloc (.cells #[.slice none 0 0,.slice none 0 0,.slice none 0 0,.slice none 0 0] 33))=W0 at *
 have g0:=pP.cell 0
 have g1:=pP.cell 1
 have g2:=pP.cell 2
 have g3:=pP.cell 3
 simp only [List.getElem?_cons_zero,List.getElem?_cons_succ] at g0 g1 g2 g3
 refine wp_region_held_drew (S:=(fun w'=>w'.cell? ⟨w.heap.size,0,none⟩=some (.slice (some ⟨b0,o0,none⟩) 3 c0)∧w'.cell? ⟨w.heap.size,1,none⟩=some (.slice (some ⟨b1,o1,none⟩) 4 c1)∧w'.cell? ⟨w.heap.size,2,none⟩=some (.slice (some ⟨b2,o2,none⟩) 2 c2)∧w'.cell? ⟨w.heap.size,3,none⟩=some (.slice (some ⟨b3,o3,none⟩) 6 c3))) (by kernel_rfl) ⟨g0,g1,g2,g3⟩ (fun hS0=>?_)
 refine tkm 1 4 (.pointer (some ⟨w.heap.size,0,none⟩)) ?_
 refine tkm 2 5 (.slice (some ⟨b0,o0,none⟩) 3 c0) ?_
 refine tkm 5 8 (.pointer (some ⟨w.heap.size,1,none⟩)) ?_
 refine tkm 6 9 (.slice (some ⟨b1,o1,none⟩) 4 c1) ?_
 refine tkm 9 12 (.pointer (some ⟨w.heap.size,2,none⟩)) ?_
 refine tkm 10 13 (.slice (some ⟨b2,o2,none⟩) 2 c2) ?_
 refine tkm 13 16 (.pointer (some ⟨w.heap.size,3,none⟩)) ?_
 refine tkm 14 17 (.slice (some ⟨b3,o3,none⟩) 6 c3) ?_
 clear g0 g1 g2 g3 hS0
 refine wpAnyH_inv (InvO w b0 o0 c0 b1 o1 c1 b2 o2 c2 b3 o3 c3 m) 2 ?ne ?step ?fin 8 _ _ _ ?start
 case start =>
  have hc:∀ zs,Chain W0.drew w.heap.size false false undef undef (.slice none 0 0) zs:=fun zs=>⟨(fun h=>by cases h),(fun _ h=>by cases h),fun _=>⟨rfl,rfl⟩⟩
  have ha:Ap (.slice none 0 0) (.slice none 0 0):=fun g hg=>by simp [Value.ownBlock] at hg
  exact ⟨false,false,false,false,false,false,false,false,undef,undef,undef,undef,undef,undef,undef,undef,.slice none 0 0,.slice none 0 0,.slice none 0 0,.slice none 0 0,rfl,rfl,rfl,⟨hc _,hc _,hc _,hc _⟩,⟨ha,ha,ha,ha,ha,ha⟩,pP.drew,pR.drew,bw.drew⟩
 case ne =>
  rintro n listed a W ⟨e0,e1,e2,e3,d0,d1,d2,d3,x0,x1,x2,x3,y0,y1,y2,y3,v0,v1,v2,v3,hn,rfl,rfl,⟨k0,k1,k2,k3⟩,_⟩ h0
  have z0:=k0.2.2
  have z1:=k1.2.2
  have z2:=k2.2.2
  have z3:=k3.2.2
  clear k0 k1 k2 k3
  revert h0 hn z0 z1 z2 z3
  cases e0<;>cases d0<;>cases e1<;>cases d1<;>cases e2<;>cases d2<;>cases e3<;>cases d3<;>intro hn h0 z0 z1 z2 z3<;>first | exact absurd (z0 rfl).1 (by decide) | exact absurd (z1 rfl).1 (by decide) | exact absurd (z2 rfl).1 (by decide) | exact absurd (z3 rfl).1 (by decide) | (exfalso;simp [cn1] at hn;done) | exact absurd h0 (of_decide_eq_false (by kernel_rfl))
 case fin =>
  rintro listed a W ⟨e0,e1,e2,e3,d0,d1,d2,d3,x0,x1,x2,x3,y0,y1,y2,y3,v0,v1,v2,v3,hn,rfl,rfl,⟨k0,k1,k2,k3⟩,⟨a01,a02,a03,a12,a13,a23⟩,pP,pR,bw⟩
  obtain ⟨rfl,rfl,rfl,rfl,rfl,rfl,rfl,rfl⟩:e0=true∧e1=true∧e2=true∧e3=true∧d0=true∧d1=true∧d2=true∧d3=true:=by
   unfold cn1 at hn
   cases e0<;>cases d0<;>cases e1<;>cases d1<;>cases e2<;>cases d2<;>cases e3<;>cases d3<;>simp at hn ⊢
  obtain ⟨_,rfl,q0⟩:=k0.1 rfl
  obtain ⟨_,rfl,q1⟩:=k1.1 rfl
  obtain ⟨_,rfl,q2⟩:=k2.1 rfl
  obtain ⟨_,rfl,q3⟩:=k3.1 rfl
  clear k0 k1 k2 k3 hn
  rw [l0] at q0
  rw [l1] at q1
  rw [l2] at q2
  rw [l3] at q3
  obtain ⟨gg0,cc0,rfl⟩:∃ g c,y0=.slice (some ⟨g,0,none⟩) 3 c:=by
   rcases q0.2 with ⟨_,h5⟩ | ⟨g,cap,cur,hv,_⟩
   ·exact absurd h5 (by decide)
   ·exact ⟨g,cap,hv⟩
  obtain ⟨gg1,cc1,rfl⟩:∃ g c,y1=.slice (some ⟨g,0,none⟩) 4 c:=by
   rcases q1.2 with ⟨_,h5⟩ | ⟨g,cap,cur,hv,_⟩
   ·exact absurd h5 (by decide)
   ·exact ⟨g,cap,hv⟩
  obtain ⟨gg2,cc2,rfl⟩:∃ g c,y2=.slice (some ⟨g,0,none⟩) 2 c:=by
   rcases q2.2 with ⟨_,h5⟩ | ⟨g,cap,cur,hv,_⟩
   ·exact absurd h5 (by decide)
   ·exact ⟨g,cap,hv⟩
  obtain ⟨gg3,cc3,rfl⟩:∃ g c,y3=.slice (some ⟨g,0,none⟩) 6 c:=by
   rcases q3.2 with ⟨_,h5⟩ | ⟨g,cap,cur,hv,_⟩
   ·exact absurd h5 (by decide)
   ·exact ⟨g,cap,hv⟩
  have hO:OwnV W w.heap.size ((some ⟨gg0,0,none⟩,3,cc0),(some ⟨gg1,0,none⟩,4,cc1),(some ⟨gg2,0,none⟩,2,cc2),(some ⟨gg3,0,none⟩,6,cc3)) m:=⟨⟨q0,q1,q2,q3⟩,a01,a02,a03,a12,a13,a23⟩
  clear q0 q1 q2 q3 a01 a02 a03 a12 a13 a23 j0 j1 j2 j3
  have hS0:(fun w':World=>w'.cell? ⟨w.heap.size,0,none⟩=some (.slice (some ⟨b0,o0,none⟩) 3 c0)∧w'.cell? ⟨w.heap.size,1,none⟩=some (.slice (some ⟨b1,o1,none⟩) 4 c1)∧w'.cell? ⟨w.heap.size,2,none⟩=some (.slice (some ⟨b2,o2,none⟩) 2 c2)∧w'.cell? ⟨w.heap.size,3,none⟩=some (.slice (some ⟨b3,o3,none⟩) 6 c3)) W:=⟨by simpa using pP.cell 0,by simpa using pP.cell 1,by simpa using pP.cell 2,by simpa using pP.cell 3⟩
  refine wpAnyH_take (i:=16) (oi:=⟨some 19,_,_,_,_,_⟩) (v:=.agg #[.slice (some ⟨gg0,0,none⟩) 3 cc0,.slice (some ⟨gg1,0,none⟩) 4 cc1,.slice (some ⟨gg2,0,none⟩) 2 cc2,.slice (some ⟨gg3,0,none⟩) 6 cc3]) rfl (by kernel_rfl) (by kernel_rfl) (by kernel_rfl) (fun _ _ _ h=>h) (Or.inl ⟨by rfl,?_⟩) hS0 ?_
  ·(intro w' hSw;(try dsimp only at hSw);go_simp;try rfl)
  simp only [Act.put,tka,tkb,tkc]
  have nPR:w.heap.size≠w.heap.size+1:=by omega
  have r0:W.cell? ⟨w.heap.size+1,0,none⟩=some (.slice none 0 0):=by simpa using pR.cell 0
  have r1:W.cell? ⟨w.heap.size+1,1,none⟩=some (.slice none 0 0):=by simpa using pR.cell 1
  have r2:W.cell? ⟨w.heap.size+1,2,none⟩=some (.slice none 0 0):=by simpa using pR.cell 2
  have r3:W.cell? ⟨w.heap.size+1,3,none⟩=some (.slice none 0 0):=by simpa using pR.cell 3
  have f0:=pR.frozen 0
  have f1:=pR.frozen 1
  have f2:=pR.frozen 2
  have f3:=pR.frozen 3
  have pR4:=(((pR.set 0 (.slice (some ⟨gg0,0,none⟩) 3 cc0)).set 1 (.slice (some ⟨gg1,0,none⟩) 4 cc1)).set 2 (.slice (some ⟨gg2,0,none⟩) 2 cc2)).set 3 (.slice (some ⟨gg3,0,none⟩) 6 cc3)
  simp only [List.set_cons_zero,List.set_cons_succ] at pR4
  have pP4:=(((pP.off ⟨w.heap.size+1,0,none⟩ (.slice (some ⟨gg0,0,none⟩) 3 cc0) nPR).off ⟨w.heap.size+1,1,none⟩ (.slice (some ⟨gg1,0,none⟩) 4 cc1) nPR).off ⟨w.heap.size+1,2,none⟩ (.slice (some ⟨gg2,0,none⟩) 2 cc2) nPR).off ⟨w.heap.size+1,3,none⟩ (.slice (some ⟨gg3,0,none⟩) 6 cc3) nPR
  have b4:=(((bw.setCell (p:=⟨w.heap.size+1,0,none⟩) (by simp) (.slice (some ⟨gg0,0,none⟩) 3 cc0)).setCell (p:=⟨w.heap.size+1,1,none⟩) (by simp) (.slice (some ⟨gg1,0,none⟩) 4 cc1)).setCell (p:=⟨w.heap.size+1,2,none⟩) (by simp) (.slice (some ⟨gg2,0,none⟩) 2 cc2)).setCell (p:=⟨w.heap.size+1,3,none⟩) (by simp) (.slice (some ⟨gg3,0,none⟩) 6 cc3)
  have hO4:=(((hO.awayB9 pR (by decide) 0 (.slice (some ⟨gg0,0,none⟩) 3 cc0)).awayB9 (pR.set 0 (.slice (some ⟨gg0,0,none⟩) 3 cc0)) (by decide) 1 (.slice (some ⟨gg1,0,none⟩) 4 cc1)).awayB9 ((pR.set 0 (.slice (some ⟨gg0,0,none⟩) 3 cc0)).set 1 (.slice (some ⟨gg1,0,none⟩) 4 cc1)) (by decide) 2 (.slice (some ⟨gg2,0,none⟩) 2 cc2)).awayB9 (((pR.set 0 (.slice (some ⟨gg0,0,none⟩) 3 cc0)).set 1 (.slice (some ⟨gg1,0,none⟩) 4 cc1)).set 2 (.slice (some ⟨gg2,0,none⟩) 2 cc2)) (by decide) 3 (.slice (some ⟨gg3,0,none⟩) 6 cc3)
  refine tkz 17 (fun K hK=>?_)
  go_simp
  refine hK.out _ _ ?_ (fun hS2=>?_)
  ·exact ⟨by simpa using pP4.cell 0,by simpa using pP4.cell 1,by simpa using pP4.cell 2,by simpa using pP4.cell 3⟩
  clear hK
  try simp only [Act.put,tka,tkb,tkc]
  refine wpAnyH_done (by kernel_rfl) ?_ _
  clear hS0 hS2 r0 r1 r2 r3 f0 f1 f2 f3 pR pP bw hO pP4
  generalize (((W.setCell ⟨w.heap.size+1,0,none⟩ (.slice (some ⟨gg0,0,none⟩) 3 cc0)).setCell ⟨w.heap.size+1,1,none⟩ (.slice (some ⟨gg1,0,none⟩) 4 cc1)).setCell ⟨w.heap.size+1,2,none⟩ (.slice (some ⟨gg2,0,none⟩) 2 cc2)).setCell ⟨w.heap.size+1,3,none⟩ (.slice (some ⟨gg3,0,none⟩) 6 cc3)=w5 at *
  go_wp2_with fail
  refine bodyPost_ret (results_blk1 Tryz.results154 _ _ _ _ _ _ rfl pR4 Tryz.underlying33 rfl (by kernel_rfl)) rfl ?_
  exact ⟨VmOne.mk9 ((some ⟨gg0,0,none⟩,3,cc0),(some ⟨gg1,0,none⟩,4,cc1),(some ⟨gg2,0,none⟩,2,cc2),(some ⟨gg3,0,none⟩,6,cc3)) rfl hO4,b4⟩
 case step =>
  rintro n listed a W ⟨e0,e1,e2,e3,d0,d1,d2,d3,x0,x1,x2,x3,y0,y1,y2,y3,v0,v1,v2,v3,hn,rfl,rfl,⟨k0,k1,k2,k3⟩,⟨a01,a02,a03,a12,a13,a23⟩,pP,pR,bw⟩ i hi
  obtain ⟨hun,op,ho,hall⟩:=mem_ready.1 hi
  clear hi
  have hsz:=bw.size
  match i,hun,ho,hall with
  | 0,hun,ho,_ =>
   obtain rfl:e0=false:=by simpa using hun
   obtain ⟨rfl,_⟩:=k0.2.2 rfl
   have pP2:=blkOld (.cells #[] 3) pP
   have pR2:=blkOld (.cells #[] 3) pR
   have b2:=bw.alloc hsz (.cells #[] 3)
   have hn2:n=(cn1 true+cn1 false)+(cn1 e1+cn1 d1)+(cn1 e2+cn1 d2)+(cn1 e3+cn1 d3):=by simp only [cn1] at hn ⊢;simp at hn ⊢;omega
   refine wpOp_step (o:=⟨some 3,_,_,_,_,_⟩) rfl (fun K' hK'=>?_)
   go_simp
   refine hK' _ _ ⟨⟨by simpa using pP2.cell 0,by simpa using pP2.cell 1,by simpa using pP2.cell 2,by simpa using pP2.cell 3⟩,true,e1,e2,e3,false,d1,d2,d3,.slice (some ⟨W.heap.size,0,none⟩) 0 0,x1,x2,x3,y0,y1,y2,y3,.slice (some ⟨W.heap.size,0,none⟩) 0 0,v1,v2,v3,hn2,by simp,by simp [Act.put],⟨⟨(fun h=>by cases h),(fun _ _=>⟨rfl,own_empty W 3 1 w.heap.size hsz⟩),(fun h=>by cases h)⟩,k1.new _,k2.new _,k3.new _⟩,⟨(Ap.new k1 0 0).symm,(Ap.new k2 0 0).symm,(Ap.new k3 0 0).symm,a12,a13,a23⟩,pP2,pR2,b2⟩
  | 1,hun,_,_=>exact absurd hun (by simp)
  | 2,hun,_,_=>exact absurd hun (by simp)
  | 3,hun,ho,hall =>
   obtain rfl:d0=false:=by simpa using hun
   obtain rfl:e0=true:=by
    simp only [List.getElem?_toArray,List.getElem?_cons_zero,List.getElem?_cons_succ,Option.some.injEq] at ho
    subst ho
    have:=hall { on:=0,ground:=Ground.data } (by simp) rfl
    simpa using this
   obtain ⟨rfl,qo⟩:=k0.2.1 rfl rfl
   have hn2:n=(cn1 true+cn1 true)+(cn1 e1+cn1 d1)+(cn1 e2+cn1 d2)+(cn1 e3+cn1 d3):=by simp only [cn1] at hn ⊢;simp at hn ⊢;omega
   refine wpOp_step (o:=⟨some 6,_,_,_,_,_⟩) rfl (fun K' hK'=>?_)
   refine step_append_at rfl _ _ 27 rfl w.heap.size 3 i0 (.int .i64 0) 1 8 Tryz.underlying27 hi hz0 hz1 hz2 rfl (by decide) _ _ _ rfl qo ⟨b0,o0,none⟩ 3 c0 (m.1.map (Value.int .i64)) rfl (by simp [l0]) (ints_news (j0.below bw)) (one_i64s _) (by unfold maxLen;omega) (by omega) hsz ?_
   intro u1 U1 qn gr hat
   have qn2:U1.ownsRow w.heap.size 3 1 u1 (m.1).length (m.1.map (Value.int .i64)):=by simpa [l0] using qn
   have pP2:=pP.kept gr (own_ne_blk9 qo pP (by decide))
   have pR2:=pR.kept gr (own_ne_blk9 qo pR (by decide))
   have b2:=bw.grown gr hsz (fun x hx=>(qo.lt x hx).1)
   refine hK' _ _ ⟨⟨by simpa using pP2.cell 0,by simpa using pP2.cell 1,by simpa using pP2.cell 2,by simpa using pP2.cell 3⟩,true,e1,e2,e3,true,d1,d2,d3,x0,x1,x2,x3,u1,y1,y2,y3,u1,v1,v2,v3,hn2,by simp,by simp [Act.put],⟨⟨(fun _=>⟨rfl,rfl,qn2⟩),(fun h=>by cases h),(fun h=>by cases h)⟩,k1.kept gr a01.symm,k2.kept gr a02.symm,k3.kept gr a03.symm⟩,⟨(Ap.grown k1 a01.symm hat).symm,(Ap.grown k2 a02.symm hat).symm,(Ap.grown k3 a03.symm hat).symm,a12,a13,a23⟩,pP2,pR2,b2⟩
  | 4,hun,ho,_ =>
   obtain rfl:e1=false:=by simpa using hun
   obtain ⟨rfl,_⟩:=k1.2.2 rfl
   have pP2:=blkOld (.cells #[] 3) pP
   have pR2:=blkOld (.cells #[] 3) pR
   have b2:=bw.alloc hsz (.cells #[] 3)
   have hn2:n=(cn1 e0+cn1 d0)+(cn1 true+cn1 false)+(cn1 e2+cn1 d2)+(cn1 e3+cn1 d3):=by simp only [cn1] at hn ⊢;simp at hn ⊢;omega
   refine wpOp_step (o:=⟨some 7,_,_,_,_,_⟩) rfl (fun K' hK'=>?_)
   go_simp
   refine hK' _ _ ⟨⟨by simpa using pP2.cell 0,by simpa using pP2.cell 1,by simpa using pP2.cell 2,by simpa using pP2.cell 3⟩,e0,true,e2,e3,d0,false,d2,d3,x0,.slice (some ⟨W.heap.size,0,none⟩) 0 0,x2,x3,y0,y1,y2,y3,v0,.slice (some ⟨W.heap.size,0,none⟩) 0 0,v2,v3,hn2,by simp,by simp [Act.put],⟨k0.new _,⟨(fun h=>by cases h),(fun _ _=>⟨rfl,own_empty W 3 1 w.heap.size hsz⟩),(fun h=>by cases h)⟩,k2.new _,k3.new _⟩,⟨Ap.new k0 0 0,a02,a03,(Ap.new k2 0 0).symm,(Ap.new k3 0 0).symm,a23⟩,pP2,pR2,b2⟩
  | 5,hun,_,_=>exact absurd hun (by simp)
  | 6,hun,_,_=>exact absurd hun (by simp)
  | 7,hun,ho,hall =>
   obtain rfl:d1=false:=by simpa using hun
   obtain rfl:e1=true:=by
    simp only [List.getElem?_toArray,List.getElem?_cons_zero,List.getElem?_cons_succ,Option.some.injEq] at ho
    subst ho
    have:=hall { on:=4,ground:=Ground.data } (by simp) rfl
    simpa using this
   obtain ⟨rfl,qo⟩:=k1.2.1 rfl rfl
   have hn2:n=(cn1 e0+cn1 d0)+(cn1 true+cn1 true)+(cn1 e2+cn1 d2)+(cn1 e3+cn1 d3):=by simp only [cn1] at hn ⊢;simp at hn ⊢;omega
   refine wpOp_step (o:=⟨some 10,_,_,_,_,_⟩) rfl (fun K' hK'=>?_)
   refine step_append_at rfl _ _ 27 rfl w.heap.size 3 i0 (.int .i64 0) 1 8 Tryz.underlying27 hi hz0 hz1 hz2 rfl (by decide) _ _ _ rfl qo ⟨b1,o1,none⟩ 4 c1 (m.2.1.map (Value.int .i64)) rfl (by simp [l1]) (ints_news (j1.below bw)) (one_i64s _) (by unfold maxLen;omega) (by omega) hsz ?_
   intro u1 U1 qn gr hat
   have qn2:U1.ownsRow w.heap.size 3 1 u1 (m.2.1).length (m.2.1.map (Value.int .i64)):=by simpa [l1] using qn
   have pP2:=pP.kept gr (own_ne_blk9 qo pP (by decide))
   have pR2:=pR.kept gr (own_ne_blk9 qo pR (by decide))
   have b2:=bw.grown gr hsz (fun x hx=>(qo.lt x hx).1)
   refine hK' _ _ ⟨⟨by simpa using pP2.cell 0,by simpa using pP2.cell 1,by simpa using pP2.cell 2,by simpa using pP2.cell 3⟩,e0,true,e2,e3,d0,true,d2,d3,x0,x1,x2,x3,y0,u1,y2,y3,v0,u1,v2,v3,hn2,by simp,by simp [Act.put],⟨k0.kept gr a01,⟨(fun _=>⟨rfl,rfl,qn2⟩),(fun h=>by cases h),(fun h=>by cases h)⟩,k2.kept gr a12.symm,k3.kept gr a13.symm⟩,⟨Ap.grown k0 a01 hat,a02,a03,(Ap.grown k2 a12.symm hat).symm,(Ap.grown k3 a13.symm hat).symm,a23⟩,pP2,pR2,b2⟩
  | 8,hun,ho,_ =>
   obtain rfl:e2=false:=by simpa using hun
   obtain ⟨rfl,_⟩:=k2.2.2 rfl
   have pP2:=blkOld (.cells #[] 3) pP
   have pR2:=blkOld (.cells #[] 3) pR
   have b2:=bw.alloc hsz (.cells #[] 3)
   have hn2:n=(cn1 e0+cn1 d0)+(cn1 e1+cn1 d1)+(cn1 true+cn1 false)+(cn1 e3+cn1 d3):=by simp only [cn1] at hn ⊢;simp at hn ⊢;omega
   refine wpOp_step (o:=⟨some 11,_,_,_,_,_⟩) rfl (fun K' hK'=>?_)
   go_simp
   refine hK' _ _ ⟨⟨by simpa using pP2.cell 0,by simpa using pP2.cell 1,by simpa using pP2.cell 2,by simpa using pP2.cell 3⟩,e0,e1,true,e3,d0,d1,false,d3,x0,x1,.slice (some ⟨W.heap.size,0,none⟩) 0 0,x3,y0,y1,y2,y3,v0,v1,.slice (some ⟨W.heap.size,0,none⟩) 0 0,v3,hn2,by simp,by simp [Act.put],⟨k0.new _,k1.new _,⟨(fun h=>by cases h),(fun _ _=>⟨rfl,own_empty W 3 1 w.heap.size hsz⟩),(fun h=>by cases h)⟩,k3.new _⟩,⟨a01,Ap.new k0 0 0,a03,Ap.new k1 0 0,a13,(Ap.new k3 0 0).symm⟩,pP2,pR2,b2⟩
  | 9,hun,_,_=>exact absurd hun (by simp)
  | 10,hun,_,_=>exact absurd hun (by simp)
  | 11,hun,ho,hall =>
   obtain rfl:d2=false:=by simpa using hun
   obtain rfl:e2=true:=by
    simp only [List.getElem?_toArray,List.getElem?_cons_zero,List.getElem?_cons_succ,Option.some.injEq] at ho
    subst ho
    have:=hall { on:=8,ground:=Ground.data } (by simp) rfl
    simpa using this
   obtain ⟨rfl,qo⟩:=k2.2.1 rfl rfl
   have hn2:n=(cn1 e0+cn1 d0)+(cn1 e1+cn1 d1)+(cn1 true+cn1 true)+(cn1 e3+cn1 d3):=by simp only [cn1] at hn ⊢;simp at hn ⊢;omega
   refine wpOp_step (o:=⟨some 14,_,_,_,_,_⟩) rfl (fun K' hK'=>?_)
   refine step_append_at rfl _ _ 27 rfl w.heap.size 3 i0 (.int .i64 0) 1 8 Tryz.underlying27 hi hz0 hz1 hz2 rfl (by decide) _ _ _ rfl qo ⟨b2,o2,none⟩ 2 c2 (m.2.2.1.map (Value.int .i64)) rfl (by simp [l2]) (ints_news (j2.below bw)) (one_i64s _) (by unfold maxLen;omega) (by omega) hsz ?_
   intro u1 U1 qn gr hat
   have qn2:U1.ownsRow w.heap.size 3 1 u1 (m.2.2.1).length (m.2.2.1.map (Value.int .i64)):=by simpa [l2] using qn
   have pP2:=pP.kept gr (own_ne_blk9 qo pP (by decide))
   have pR2:=pR.kept gr (own_ne_blk9 qo pR (by decide))
   have b2:=bw.grown gr hsz (fun x hx=>(qo.lt x hx).1)
   refine hK' _ _ ⟨⟨by simpa using pP2.cell 0,by simpa using pP2.cell 1,by simpa using pP2.cell 2,by simpa using pP2.cell 3⟩,e0,e1,true,e3,d0,d1,true,d3,x0,x1,x2,x3,y0,y1,u1,y3,v0,v1,u1,v3,hn2,by simp,by simp [Act.put],⟨k0.kept gr a02,k1.kept gr a12,⟨(fun _=>⟨rfl,rfl,qn2⟩),(fun h=>by cases h),(fun h=>by cases h)⟩,k3.kept gr a23.symm⟩,⟨a01,Ap.grown k0 a02 hat,a03,Ap.grown k1 a12 hat,a13,(Ap.grown k3 a23.symm hat).symm⟩,pP2,pR2,b2⟩
  | 12,hun,ho,_ =>
   obtain rfl:e3=false:=by simpa using hun
   obtain ⟨rfl,_⟩:=k3.2.2 rfl
   have pP2:=blkOld (.cells #[] 3) pP
   have pR2:=blkOld (.cells #[] 3) pR
   have b2:=bw.alloc hsz (.cells #[] 3)
   have hn2:n=(cn1 e0+cn1 d0)+(cn1 e1+cn1 d1)+(cn1 e2+cn1 d2)+(cn1 true+cn1 false):=by simp only [cn1] at hn ⊢;simp at hn ⊢;omega
   refine wpOp_step (o:=⟨some 15,_,_,_,_,_⟩) rfl (fun K' hK'=>?_)
   go_simp
   refine hK' _ _ ⟨⟨by simpa using pP2.cell 0,by simpa using pP2.cell 1,by simpa using pP2.cell 2,by simpa using pP2.cell 3⟩,e0,e1,e2,true,d0,d1,d2,false,x0,x1,x2,.slice (some ⟨W.heap.size,0,none⟩) 0 0,y0,y1,y2,y3,v0,v1,v2,.slice (some ⟨W.heap.size,0,none⟩) 0 0,hn2,by simp,by simp [Act.put],⟨k0.new _,k1.new _,k2.new _,⟨(fun h=>by cases h),(fun _ _=>⟨rfl,own_empty W 3 1 w.heap.size hsz⟩),(fun h=>by cases h)⟩⟩,⟨a01,a02,Ap.new k0 0 0,a12,Ap.new k1 0 0,Ap.new k2 0 0⟩,pP2,pR2,b2⟩
  | 13,hun,_,_=>exact absurd hun (by simp)
  | 14,hun,_,_=>exact absurd hun (by simp)
  | 15,hun,ho,hall =>
   obtain rfl:d3=false:=by simpa using hun
   obtain rfl:e3=true:=by
    simp only [List.getElem?_toArray,List.getElem?_cons_zero,List.getElem?_cons_succ,Option.some.injEq] at ho
    subst ho
    have:=hall { on:=12,ground:=Ground.data } (by simp) rfl
    simpa using this
   obtain ⟨rfl,qo⟩:=k3.2.1 rfl rfl
   have hn2:n=(cn1 e0+cn1 d0)+(cn1 e1+cn1 d1)+(cn1 e2+cn1 d2)+(cn1 true+cn1 true):=by simp only [cn1] at hn ⊢;simp at hn ⊢;omega
   refine wpOp_step (o:=⟨some 18,_,_,_,_,_⟩) rfl (fun K' hK'=>?_)
   refine step_append_at rfl _ _ 27 rfl w.heap.size 3 i0 (.int .i64 0) 1 8 Tryz.underlying27 hi hz0 hz1 hz2 rfl (by decide) _ _ _ rfl qo ⟨b3,o3,none⟩ 6 c3 (m.2.2.2.map (Value.int .i64)) rfl (by simp [l3]) (ints_news (j3.below bw)) (one_i64s _) (by unfold maxLen;omega) (by omega) hsz ?_
   intro u1 U1 qn gr hat
   have qn2:U1.ownsRow w.heap.size 3 1 u1 (m.2.2.2).length (m.2.2.2.map (Value.int .i64)):=by simpa [l3] using qn
   have pP2:=pP.kept gr (own_ne_blk9 qo pP (by decide))
   have pR2:=pR.kept gr (own_ne_blk9 qo pR (by decide))
   have b2:=bw.grown gr hsz (fun x hx=>(qo.lt x hx).1)
   refine hK' _ _ ⟨⟨by simpa using pP2.cell 0,by simpa using pP2.cell 1,by simpa using pP2.cell 2,by simpa using pP2.cell 3⟩,e0,e1,e2,true,d0,d1,d2,true,x0,x1,x2,x3,y0,y1,y2,u1,v0,v1,v2,u1,hn2,by simp,by simp [Act.put],⟨k0.kept gr a03,k1.kept gr a13,k2.kept gr a23,⟨(fun _=>⟨rfl,rfl,qn2⟩),(fun h=>by cases h),(fun h=>by cases h)⟩⟩,⟨a01,a02,Ap.grown k0 a03 hat,a12,Ap.grown k1 a13 hat,Ap.grown k2 a23 hat⟩,pP2,pR2,b2⟩
  | 16,_,ho,hall =>
   exfalso
   simp only [List.getElem?_toArray,List.getElem?_cons_zero,List.getElem?_cons_succ,Option.some.injEq] at ho
   subst ho
   have h0:=hall { on:=3,ground:=Ground.data } (by simp) rfl
   have h1:=hall { on:=7,ground:=Ground.data } (by simp) rfl
   have h2:=hall { on:=11,ground:=Ground.data } (by simp) rfl
   have h3:=hall { on:=15,ground:=Ground.data } (by simp) rfl
   simp at h0 h1 h2 h3
   subst h0 h1 h2 h3
   obtain ⟨rfl,_⟩:=k0.1 rfl
   obtain ⟨rfl,_⟩:=k1.1 rfl
   obtain ⟨rfl,_⟩:=k2.1 rfl
   obtain ⟨rfl,_⟩:=k3.1 rfl
   simp [cn1] at hn
  | 17,_,ho,hall =>
   exfalso
   simp only [List.getElem?_toArray,List.getElem?_cons_zero,List.getElem?_cons_succ,Option.some.injEq] at ho
   subst ho
   have h0:=hall { on:=16,ground:=Ground.data } (by simp) rfl
   simp at h0
  | (k+18),_,ho,_=>exact absurd ho (by simp)


def VmShape (w:World):Prop:=∀ i v,([3,6,4,9,2,3,6,9].map (Value.int .i64))[i]?=some v→w.cell? ⟨0,i,none⟩=some v
theorem VmShape.below {w w':World} (h:VmShape w) (hb:Below w.heap.size w w'):VmShape w':=fun i v hi=>cells_kept hb _ _ (h i v hi)

theorem lists_is (s:S4) (w:World) :
  Calls Tryz.prog 63 #[s.val] w fun e w'=>e=.returned s.val∧Below w.heap.size w w':=by
 obtain ⟨⟨a0,n0,c0⟩,⟨a1,n1,c1⟩,⟨a2,n2,c2⟩,⟨a3,n3,c3⟩⟩:=s
 unfold S4.val
 simp only
 go_enter Tryz.func63,Tryz.ntmps63
 go_wp2
 go_returns
 exact ⟨rfl,by go_grown⟩

theorem fits_is (n high:Int) (a:Option Addr) (len cap:Nat) (zs:List Int) (w:World) (h:Ints .i64 w a len cap zs) :
  Calls Tryz.prog 124 #[.agg #[.int .i64 n,.int .i64 high],.slice a len cap] w fun e w'=>e=.returned (.bool (allIn zs n high))∧Below w.heap.size w w':=by
 obtain ⟨hl,hlc,hcm,hcase⟩:=h
 unfold maxLen at hcm
 obtain ⟨fin,hfin⟩:∃ fin,fin=allIn zs n high:=⟨_,rfl⟩
 rw [← hfin]
 have HF:Hid (fin=allIn zs n high):=hfin
 clear hfin
 by_cases hn:(len:Int)=n
 ·have HE:Hid (Hid (∀ i,i<zs.length→0≤zs.getD i 0∧zs.getD i 0≤high)→fin=true):=fun h=>by rw [HF.out,allIn_end h.out,hl,decide_eq_true hn]
  have hne:((len:Int) != n)=false:=by simp [hn]
  by_cases h0:len=0
  ·subst h0
   obtain rfl:fin=true:=HE.out (fun i hi=>by omega)
   clear HE HF
   simp only [Int.natCast_zero] at hne
   go_enter Tryz.func124,Tryz.ntmps124
   go_wp2
   refine wp_loop_rounds 1 ?_
   rw [rounds_succ]
   go_wp2
   go_ret
   exact ⟨rfl,by go_grown⟩
  ·rcases hcase with h0' | ⟨bk,off,rfl,hblt,hcell⟩
   ·exact absurd h0' h0
   have bw:Below w.heap.size w (w.alloc (.cells #[.int .i64 n,.int .i64 high] 173)):=by go_grown
   have q1:(w.alloc (.cells #[.int .i64 n,.int .i64 high] 173)).cell? ⟨w.heap.size,1,none⟩=some (.int .i64 high):=by simp [go_sem]
   have hc2:∀ t,t<len→(w.alloc (.cells #[.int .i64 n,.int .i64 high] 173)).cell? ⟨bk,off+t,none⟩=some (.int .i64 (zs.getD t 0)):=fun t ht=>cells_kept bw _ _ (hcell t ht)
   clear hcell
   go_enter Tryz.func124,Tryz.ntmps124
   go_wp2
   generalize (w.alloc (.cells #[.int .i64 n,.int .i64 high] 173))=W at *
   go_loopw [14] (fun si wr=>∃ k:Nat,k≤len∧si=.int .i64 k∧Hid (∀ i,i<k→0≤zs.getD i 0∧zs.getD i 0≤high)∧W=wr) (fun si _=>len - (intOf si).toNat)
   case atStart=>exact ⟨0,by omega,rfl,(fun i hi=>by omega),rfl⟩
   case round =>
    obtain ⟨k,hk,rfl,HK,rfl⟩:=hrel
    by_cases hlt:k<len
    ·have hc:=hc2 k hlt
     have hlt':(k:Int)<(len:Int):=by omega
     have hno:¬ (0≤zs.getD k 0∧zs.getD k 0≤high)→fin=false:=fun hin=>by rw [HF.out];exact allIn_no (by omega) hin
     have HN:Hid (¬ (0≤zs.getD k 0∧zs.getD k 0≤high)→fin=false):=hno
     have HK2:Hid (0≤zs.getD k 0∧zs.getD k 0≤high→Hid (∀ i,i<k+1→0≤zs.getD i 0∧zs.getD i 0≤high)):=fun hin i hi=>by
      by_cases e:i=k
      ·subst e;exact hin
      ·exact HK.out i (by omega)
     clear hc2 hno
     generalize zs.getD k 0=x at hc HN HK2
     by_cases g0:x<0
     ·obtain rfl:fin=false:=HN.out (by omega)
      clear HN HK2 HK HF HE
      go_wp2
      go_ret
      exact ⟨rfl,bw⟩
     ·by_cases g1:high<x
      ·obtain rfl:fin=false:=HN.out (by omega)
       have g0':decide (x<0)=false:=by simp;omega
       clear HN HK2 HK HF HE
       go_wp2
       go_ret
       exact ⟨rfl,bw⟩
      ·have HK3:=HK2.out ⟨by omega,by omega⟩
       have g0':decide (x<0)=false:=by simp;omega
       have g1':decide (high<x)=false:=by simp;omega
       clear HN HK2 HK HF HE
       go_wp2
       go_roundw
       case rel=>exact ⟨k+1,by omega,by go_num,HK3,by trivial⟩
       case measure=>simp [intOf];omega
    ·obtain rfl:k=len:=by omega
     obtain rfl:fin=true:=HE.out (fun i hi=>HK.out i (by omega))
     clear hc2 HE HF HK
     go_wp2
     go_ret
     exact ⟨rfl,bw⟩
 ·obtain rfl:fin=false:=by
   rw [HF.out]
   unfold allIn
   rw [hl,decide_eq_false hn,Bool.and_false]
  have hne:((len:Int) != n)=true:=by simp [hn]
  clear HF hcase
  go_enter Tryz.func124,Tryz.ntmps124
  go_wp2
  go_ret
  exact ⟨rfl,by go_grown⟩

theorem idx4_0 (v0 v1 v2 v3:Value) (w:World):(Instr.index 100 (.agg #[v0,v1,v2,v3]) (.int .i64 0)).run Tryz.prog w=.ok v0 w:=by kernel_rfl
theorem idx4_1 (v0 v1 v2 v3:Value) (w:World):(Instr.index 100 (.agg #[v0,v1,v2,v3]) (.int .i64 1)).run Tryz.prog w=.ok v1 w:=by kernel_rfl
theorem idx4_2 (v0 v1 v2 v3:Value) (w:World):(Instr.index 100 (.agg #[v0,v1,v2,v3]) (.int .i64 2)).run Tryz.prog w=.ok v2 w:=by kernel_rfl
theorem idx4_3 (v0 v1 v2 v3:Value) (w:World):(Instr.index 100 (.agg #[v0,v1,v2,v3]) (.int .i64 3)).run Tryz.prog w=.ok v3 w:=by kernel_rfl

theorem right_is (s:S4) (m:V4) (w:World) (h:Vmem w s m) (hV:VmShape w) :
  Calls Tryz.prog 62 #[s.val] w fun e w'=>e=.returned (.bool (shapeOk m))∧Below w.heap.size w w':=by
 have kL:=lists_is s
 obtain ⟨⟨i0,_⟩,⟨i1,_⟩,⟨i2,_⟩,⟨i3,_⟩⟩:=h
 obtain ⟨⟨a0,n0,c0⟩,⟨a1,n1,c1⟩,⟨a2,n2,c2⟩,⟨a3,n3,c3⟩⟩:=s
 obtain ⟨m0,m1,m2,m3⟩:=m
 unfold S4.val at kL ⊢
 unfold shapeOk
 simp only at i0 i1 i2 i3 kL ⊢
 have bw:Below w.heap.size w (w.alloc (.cells #[.slice a0 n0 c0,.slice a1 n1 c1,.slice a2 n2 c2,.slice a3 n3 c3] 33)):=by go_grown
 have k0:=fun w h=>fits_is 3 6 a0 n0 c0 m0 w h
 have k1:=fun w h=>fits_is 4 9 a1 n1 c1 m1 w h
 have k2:=fun w h=>fits_is 2 3 a2 n2 c2 m2 w h
 have k3:=fun w h=>fits_is 6 9 a3 n3 c3 m3 w h
 generalize allIn m0 3 6=x0 at *
 generalize allIn m1 4 9=x1 at *
 generalize allIn m2 2 3=x2 at *
 generalize allIn m3 6 9=x3 at *
 have d0:=idx4_0 (.slice a0 n0 c0) (.slice a1 n1 c1) (.slice a2 n2 c2) (.slice a3 n3 c3)
 have d1:=idx4_1 (.slice a0 n0 c0) (.slice a1 n1 c1) (.slice a2 n2 c2) (.slice a3 n3 c3)
 have d2:=idx4_2 (.slice a0 n0 c0) (.slice a1 n1 c1) (.slice a2 n2 c2) (.slice a3 n3 c3)
 have d3:=idx4_3 (.slice a0 n0 c0) (.slice a1 n1 c1) (.slice a2 n2 c2) (.slice a3 n3 c3)
 go_enter Tryz.func62,Tryz.ntmps62
 go_wp2_with fail
 refine (kL _).mono ?_
 rintro e w1 ⟨rfl,hb⟩
 replace bw:=bel_trans bw hb
 replace hV:=hV.below bw
 clear hb kL
 have t0:=hV 0 _ rfl
 have t1:=hV 1 _ rfl
 go_wp2_with fail
 refine wp_loop_rounds 5 ?_
 rw [rounds_succ]
 go_wp2_with fail
 refine (k0 _ (i0.below bw)).mono ?_
 rintro e w2 ⟨rfl,hb⟩
 replace bw:=bel_trans bw hb
 replace hV:=hV.below hb
 clear hb k0 i0 t0 t1
 cases x0
 ·go_wp2
  go_ret
  exact ⟨rfl,bw⟩
 have t2:=hV 2 _ rfl
 have t3:=hV 3 _ rfl
 go_wp2_with fail
 rw [rounds_succ]
 go_wp2_with fail
 refine (k1 _ (i1.below bw)).mono ?_
 rintro e w3 ⟨rfl,hb⟩
 replace bw:=bel_trans bw hb
 replace hV:=hV.below hb
 clear hb k1 i1 t2 t3
 cases x1
 ·go_wp2
  go_ret
  exact ⟨rfl,bw⟩
 have t4:=hV 4 _ rfl
 have t5:=hV 5 _ rfl
 go_wp2_with fail
 rw [rounds_succ]
 go_wp2_with fail
 refine (k2 _ (i2.below bw)).mono ?_
 rintro e w4 ⟨rfl,hb⟩
 replace bw:=bel_trans bw hb
 replace hV:=hV.below hb
 clear hb k2 i2 t4 t5
 cases x2
 ·go_wp2
  go_ret
  exact ⟨rfl,bw⟩
 have t6:=hV 6 _ rfl
 have t7:=hV 7 _ rfl
 go_wp2_with fail
 rw [rounds_succ]
 go_wp2_with fail
 refine (k3 _ (i3.below bw)).mono ?_
 rintro e w5 ⟨rfl,hb⟩
 replace bw:=bel_trans bw hb
 clear hb k3 i3 t6 t7 hV
 cases x3
 ·go_wp2
  go_ret
  exact ⟨rfl,bw⟩
 go_wp2_with fail
 rw [rounds_succ]
 go_wp2
 go_ret
 exact ⟨rfl,bw⟩


theorem implVmOK_is (a:Option Addr) (len cap:Nat) (rows:List (List I3)) (s:S4) (m:V4) (w:World) (hC:Codes w a len cap rows) (h:Vmem w s m) (hV:VmShape w) :
  Calls Tryz.prog 132 #[.agg #[.slice a len cap],s.val] w fun e w'=>e=.returned (.bool (progOk rows && shapeOk m))∧Below w.heap.size w w':=by
 have kP:=implProgramOK_is a len cap rows
 have kS:=right_is s m
 generalize progOk rows=x at *
 generalize shapeOk m=y at *
 obtain ⟨⟨a0,n0,c0⟩,⟨a1,n1,c1⟩,⟨a2,n2,c2⟩,⟨a3,n3,c3⟩⟩:=s
 unfold S4.val at kS ⊢
 simp only at kS ⊢
 have hu:Hid (∀ W,Below w.heap.size w W→Vmem W ((a0,n0,c0),(a1,n1,c1),(a2,n2,c2),(a3,n3,c3)) m):=fun W hb=>h.below hb
 have bw:Below w.heap.size w ((w.alloc (.cells #[.slice a len cap] 25)).alloc (.cells #[.slice a0 n0 c0,.slice a1 n1 c1,.slice a2 n2 c2,.slice a3 n3 c3] 33)):=by go_grown
 have cS:∀ j v,[Value.slice a0 n0 c0,.slice a1 n1 c1,.slice a2 n2 c2,.slice a3 n3 c3][j]?=some v→((w.alloc (.cells #[.slice a len cap] 25)).alloc (.cells #[.slice a0 n0 c0,.slice a1 n1 c1,.slice a2 n2 c2,.slice a3 n3 c3] 33)).cell? ⟨w.heap.size+1,j,none⟩=some v:=by
  intro j v hj
  match j,hj with
  | 0,hj=>simp at hj;subst hj;simp [go_sem]
  | 1,hj=>simp at hj;subst hj;simp [go_sem]
  | 2,hj=>simp at hj;subst hj;simp [go_sem]
  | 3,hj=>simp at hj;subst hj;simp [go_sem]
  | (j+4),hj=>simp at hj
 have s0:=cS 0 _ rfl
 have s1:=cS 1 _ rfl
 have s2:=cS 2 _ rfl
 have s3:=cS 3 _ rfl
 clear cS
 go_enter Tryz.func132,Tryz.ntmps132
 go_wp2_with fail
 refine (kP _ (hC.below bw)).mono ?_
 rintro e w1 ⟨rfl,hb⟩
 replace bw:=bel_trans bw hb
 replace s0:=cells_kept hb _ _ s0
 replace s1:=cells_kept hb _ _ s1
 replace s2:=cells_kept hb _ _ s2
 replace s3:=cells_kept hb _ _ s3
 clear hb hC kP
 cases x
 ·go_wp2
  go_ret
  exact ⟨rfl,bw⟩
 go_wp2_with fail
 refine (kS _ (hu.out _ bw) (hV.below bw)).mono ?_
 rintro e w2 ⟨rfl,hb⟩
 replace bw:=bel_trans bw hb
 cases y
 ·go_wp2
  go_ret
  exact ⟨rfl,bw⟩
 go_wp2
 go_ret
 exact ⟨rfl,bw⟩


theorem ints_at9 {w:World} {b off n c:Nat} {zs:List Int} (h:Ints .i64 w (some ⟨b,off,none⟩) n c zs) {t:Nat} (ht:t<n):w.cell? ⟨b,off+t,none⟩=some (.int .i64 (zs.getD t 0)):=by
 rcases h.2.2.2 with h0 | ⟨b',off',ha,_,hc⟩
 ·omega
 ·cases ha
  exact hc t ht
theorem list_src {w:World} {ad:Addr} {cs:List Value} (h:∀ j v,cs[j]?=some v→w.cell? ⟨ad.block,ad.off+j,none⟩=some v) (hs:ad.spot=none):∀ j v,cs[j]?=some v→w.cell? (ad.add j)=some v:=by
 intro j v hj
 have e:ad.add j=⟨ad.block,ad.off+j,none⟩:=by obtain ⟨b,o,s⟩:=ad;simp only at hs;subst hs;unfold Addr.add;split<;>simp_all
 rw [e]
 exact h j v hj
theorem src_of {w:World} {b off n c:Nat} {zs:List Int} (h:Ints .i64 w (some ⟨b,off,none⟩) n c zs) (o l:Nat) (hl:o+l≤n):∀ j v,(((zs.drop o).take l).map (Value.int .i64))[j]?=some v→w.cell? ((⟨b,off+o,none⟩:Addr).add j)=some v:=by
 refine list_src ?_ rfl
 intro j v hj
 have hzl:=h.1
 have hjl:j<l:=by
  rcases Nat.lt_or_ge j l with h' | h'
  ·exact h'
  ·rw [List.getElem?_eq_none (by simp;omega)] at hj;cases hj
 have:=ints_at9 h (t:=o+j) (by omega)
 rw [Nat.add_assoc,this]
 simp only [List.getElem?_map,List.getElem?_take,List.getElem?_drop,hjl,if_true] at hj
 rw [List.getElem?_eq_getElem (show o+j<zs.length by omega)] at hj
 simp at hj
 rw [← hj]
 simp [List.getD,show o+j<zs.length by omega]

def RowsAt (w:World) (a:Option Addr) (cs:Sl × Sl × Sl) (rows:List (List I3)):Prop:=
 ∃ b off,a=some ⟨b,off,none⟩∧b<w.heap.size∧∀ k,k<3→w.cell? ⟨b,off+k,none⟩=some (.slice (slK cs k).1 (slK cs k).2.1 (slK cs k).2.2)∧Instrs w (slK cs k).1 (slK cs k).2.1 (slK cs k).2.2 (codeM rows k)
theorem RowsAt.below {w w':World} {a:Option Addr} {cs:Sl × Sl × Sl} {rows:List (List I3)} (h:RowsAt w a cs rows) (hb:Below w.heap.size w w'):RowsAt w' a cs rows:=by
 obtain ⟨b,off,ha,hlt,hk⟩:=h
 exact ⟨b,off,ha,Nat.lt_of_lt_of_le hlt hb.size,fun k h3=>⟨cells_kept hb _ _ (hk k h3).1,(hk k h3).2.below hb⟩⟩
theorem RowsAt.uniq {w:World} {a:Option Addr} {cs cs':Sl × Sl × Sl} {rows rows':List (List I3)} (h:RowsAt w a cs rows) (h':RowsAt w a cs' rows'):cs=cs':=by
 obtain ⟨b,off,ha,_,hk⟩:=h
 obtain ⟨b',off',ha',_,hk'⟩:=h'
 rw [ha] at ha'
 cases ha'
 have e:∀ k,k<3→slK cs k=slK cs' k:=fun k h3=>by
  have:=(hk k h3).1.symm.trans (hk' k h3).1
  simp at this
  obtain ⟨e0,e1,e2⟩:=this
  exact Prod.ext e0 (Prod.ext e1 e2)
 exact Prod.ext (e 0 (by decide)) (Prod.ext (e 1 (by decide)) (e 2 (by decide)))
theorem Codes.rowsAt {w:World} {a:Option Addr} {len cap:Nat} {rows:List (List I3)} (hC:Codes w a len cap rows) (hp:progOk rows=true):len=3∧∃ cs,RowsAt w a cs rows:=by
 obtain ⟨h3,_⟩:=progOk_parts hp
 obtain ⟨hl,hlc,hcm,hcase⟩:=hC
 obtain rfl:len=3:=hl.symm.trans h3
 rcases hcase with h9 | ⟨b,off,ha,hlt,hrow⟩
 ·exact absurd h9 (by decide)
 ·obtain ⟨a0,n0,c0,r0,i0⟩:=hrow 0 (by decide)
  obtain ⟨a1,n1,c1,r1,i1⟩:=hrow 1 (by decide)
  obtain ⟨a2,n2,c2,r2,i2⟩:=hrow 2 (by decide)
  refine ⟨rfl,((a0,n0,c0),(a1,n1,c1),(a2,n2,c2)),b,off,ha,hlt,fun k hk=>?_⟩
  match k,hk with
  | 0,_=>exact ⟨r0,i0⟩
  | 1,_=>exact ⟨r1,i1⟩
  | 2,_=>exact ⟨r2,i2⟩
theorem RowsAt.mach {w:World} {a:Option Addr} {cs:Sl × Sl × Sl} {rows:List (List I3)} {m:V4} {g:Nat} (h:RowsAt w a cs rows) (hB:Blk w g 89 (machCells cs.1.val cs.2.1.val cs.2.2.val m)):MachAt w g cs rows m:=by
 obtain ⟨b,off,_,_,hk⟩:=h
 exact ⟨hB,fun k h3=>(hk k h3).2⟩

theorem machineOf_bad (a:Option Addr) (len cap:Nat) (rows:List (List I3)) (s:S4) (m:V4) (w:World) (hC:Codes w a len cap rows) (h:Vmem w s m) (hV:VmShape w) (hok:(progOk rows && shapeOk m)=false) :
  Calls Tryz.prog 71 #[.agg #[.slice a len cap],s.val] w fun e w'=>e=.returned (.tuple #[.agg #[.slice none 0 0,.int .i64 0,.int .i64 0,.int .i64 0,.slice none 0 0,.int .i64 0,.int .i64 0,.int .i64 0,.slice none 0 0,.int .i64 0,.int .i64 0,.int .i64 0,.int .i64 0,.int .i64 0,.int .i64 0,.int .i64 0,.int .i64 0,.int .i64 0],.int .i64 1])∧Below w.heap.size w w':=by
 have kV:=fun w hC h hV=>implVmOK_is a len cap rows s m w hC h hV
 rw [hok] at kV
 have hM:=fun (W:World) (hb:Below w.heap.size w W)=>h.below hb
 obtain ⟨⟨a0,n0,c0⟩,⟨a1,n1,c1⟩,⟨a2,n2,c2⟩,⟨a3,n3,c3⟩⟩:=s
 have uA:S4.val ((a0,n0,c0),(a1,n1,c1),(a2,n2,c2),(a3,n3,c3))=.agg #[.slice a0 n0 c0,.slice a1 n1 c1,.slice a2 n2 c2,.slice a3 n3 c3]:=rfl
 rw [uA] at kV ⊢
 clear uA h
 have bw:Below w.heap.size w (((w.alloc (.cells #[.slice a len cap] 25)).alloc (.cells #[.slice a0 n0 c0,.slice a1 n1 c1,.slice a2 n2 c2,.slice a3 n3 c3] 33)).alloc (.cells #[.slice none 0 0,.int .i64 0,.int .i64 0,.int .i64 0,.slice none 0 0,.int .i64 0,.int .i64 0,.int .i64 0,.slice none 0 0,.int .i64 0,.int .i64 0,.int .i64 0,.int .i64 0,.int .i64 0,.int .i64 0,.int .i64 0,.int .i64 0,.int .i64 0] 89)):=by go_grown
 have pR:Blk (((w.alloc (.cells #[.slice a len cap] 25)).alloc (.cells #[.slice a0 n0 c0,.slice a1 n1 c1,.slice a2 n2 c2,.slice a3 n3 c3] 33)).alloc (.cells #[.slice none 0 0,.int .i64 0,.int .i64 0,.int .i64 0,.slice none 0 0,.int .i64 0,.int .i64 0,.int .i64 0,.slice none 0 0,.int .i64 0,.int .i64 0,.int .i64 0,.int .i64 0,.int .i64 0,.int .i64 0,.int .i64 0,.int .i64 0,.int .i64 0] 89)) (w.heap.size+1+1) 89 [.slice none 0 0,.int .i64 0,.int .i64 0,.int .i64 0,.slice none 0 0,.int .i64 0,.int .i64 0,.int .i64 0,.slice none 0 0,.int .i64 0,.int .i64 0,.int .i64 0,.int .i64 0,.int .i64 0,.int .i64 0,.int .i64 0,.int .i64 0,.int .i64 0]:=by
  have h9:=Blk.new ((w.alloc (.cells #[.slice a len cap] 25)).alloc (.cells #[.slice a0 n0 c0,.slice a1 n1 c1,.slice a2 n2 c2,.slice a3 n3 c3] 33)) 89 [.slice none 0 0,.int .i64 0,.int .i64 0,.int .i64 0,.slice none 0 0,.int .i64 0,.int .i64 0,.int .i64 0,.slice none 0 0,.int .i64 0,.int .i64 0,.int .i64 0,.int .i64 0,.int .i64 0,.int .i64 0,.int .i64 0,.int .i64 0,.int .i64 0]
  simp only [World.size_alloc] at h9
  exact h9
 go_enter Tryz.func71,Tryz.ntmps71
 go_wp2_with fail
 refine (kV _ (hC.below bw) (hM _ bw) (hV.below bw)).mono ?_
 rintro e w1 ⟨rfl,hb⟩
 replace bw:=bel_trans bw hb
 replace pR:=pR.below hb
 clear hb kV hM hV hC
 go_wp2_with (refine wpList_store_blk rfl 89 _ _ rfl (w.heap.size+1+1) [.slice none 0 0,.int .i64 0,.int .i64 0,.int .i64 0,.slice none 0 0,.int .i64 0,.int .i64 0,.int .i64 0,.slice none 0 0,.int .i64 0,.int .i64 0,.int .i64 0,.int .i64 0,.int .i64 0,.int .i64 0,.int .i64 0,.int .i64 0,.int .i64 0] rfl rfl pR (by kernel_rfl) rfl rfl ?_)
 intro w2 pR2 g2
 replace bw:=bw.grown g2 bw.size (fun k hk=>by cases hk;omega)
 clear g2 pR
 go_wp2_with fail
 refine bodyPost_ret (results_blk2 Tryz.results71 _ _ _ _ _ _ rfl pR2.out Tryz.underlying89 rfl (by kernel_rfl)) rfl ?_
 exact ⟨rfl,bw⟩
theorem machineOf_ok (a:Option Addr) (len cap:Nat) (rows:List (List I3)) (s:S4) (m:V4) (w:World) (hC:Codes w a len cap rows) (h:Vmem w s m) (hV:VmShape w) (hp:progOk rows=true) (hs:shapeOk m=true) :
  Calls Tryz.prog 71 #[.agg #[.slice a len cap],s.val] w fun e w'=>(∃ cs:Sl × Sl × Sl,e=.returned (.tuple #[.agg (machCells cs.1.val cs.2.1.val cs.2.2.val m).toArray,.int .i64 0])∧RowsAt w a cs rows)∧Below w.heap.size w w':=by
 have kV:=fun w hC h hV=>implVmOK_is a len cap rows s m w hC h hV
 rw [hp,hs] at kV
 have hM:=fun (W:World) (hb:Below w.heap.size w W)=>h.below hb
 obtain ⟨h3,_⟩:=progOk_parts hp
 have hC0:=hC
 obtain ⟨hl,hlc,hcm,hcase⟩:=hC0
 obtain rfl:len=3:=hl.symm.trans h3
 rcases hcase with h9 | ⟨bp,op,rfl,hblt,hrow⟩
 ·exact absurd h9 (by decide)
 obtain ⟨ca0,cn0,cc0,r0,I0⟩:=hrow 0 (by decide)
 obtain ⟨ca1,cn1,cc1,r1,I1⟩:=hrow 1 (by decide)
 obtain ⟨ca2,cn2,cc2,r2,I2⟩:=hrow 2 (by decide)
 have HI:Hid (RowsAt w (some ⟨bp,op,none⟩) ((ca0,cn0,cc0),(ca1,cn1,cc1),(ca2,cn2,cc2)) rows):=by
  refine ⟨bp,op,rfl,hblt,fun k hk=>?_⟩
  match k,hk with
  | 0,_=>exact ⟨r0,I0⟩
  | 1,_=>exact ⟨r1,I1⟩
  | 2,_=>exact ⟨r2,I2⟩
 clear hrow I0 I1 I2
 obtain ⟨p0,p1,p2,v0,v1,v2,v3,h0,h1,x0,y0,x1,y1,x2,y2,rfl⟩:=shape_lists hs
 obtain ⟨⟨j0,_⟩,⟨j1,_⟩,⟨j2,_⟩,⟨j3,_⟩⟩:=h
 obtain ⟨⟨a0,n0,c0⟩,⟨a1,n1,c1⟩,⟨a2,n2,c2⟩,⟨a3,n3,c3⟩⟩:=s
 simp only at j0 j1 j2 j3
 obtain ⟨rfl,b0,o0,rfl⟩:=some_of_ints (k:=3) j0 rfl (by decide)
 obtain ⟨rfl,b1,o1,rfl⟩:=some_of_ints (k:=4) j1 rfl (by decide)
 obtain ⟨rfl,b2,o2,rfl⟩:=some_of_ints (k:=2) j2 rfl (by decide)
 obtain ⟨rfl,b3,o3,rfl⟩:=some_of_ints (k:=6) j3 rfl (by decide)
 have hc3:6≤c3:=j3.2.1
 have hm3:c3≤9223372036854775807:=Nat.le_trans j3.2.2.1 (by unfold maxLen;omega)
 have uA:S4.val ((some ⟨b0,o0,none⟩,3,c0),(some ⟨b1,o1,none⟩,4,c1),(some ⟨b2,o2,none⟩,2,c2),(some ⟨b3,o3,none⟩,6,c3))=.agg #[.slice (some ⟨b0,o0,none⟩) 3 c0,.slice (some ⟨b1,o1,none⟩) 4 c1,.slice (some ⟨b2,o2,none⟩) 2 c2,.slice (some ⟨b3,o3,none⟩) 6 c3]:=rfl
 rw [uA] at kV ⊢
 clear uA
 have bw:Below w.heap.size w (((w.alloc (.cells #[.slice (some ⟨bp,op,none⟩) 3 cap] 25)).alloc (.cells #[.slice (some ⟨b0,o0,none⟩) 3 c0,.slice (some ⟨b1,o1,none⟩) 4 c1,.slice (some ⟨b2,o2,none⟩) 2 c2,.slice (some ⟨b3,o3,none⟩) 6 c3] 33)).alloc (.cells #[.slice none 0 0,.int .i64 0,.int .i64 0,.int .i64 0,.slice none 0 0,.int .i64 0,.int .i64 0,.int .i64 0,.slice none 0 0,.int .i64 0,.int .i64 0,.int .i64 0,.int .i64 0,.int .i64 0,.int .i64 0,.int .i64 0,.int .i64 0,.int .i64 0] 89)):=by go_grown
 have pP:Blk (((w.alloc (.cells #[.slice (some ⟨bp,op,none⟩) 3 cap] 25)).alloc (.cells #[.slice (some ⟨b0,o0,none⟩) 3 c0,.slice (some ⟨b1,o1,none⟩) 4 c1,.slice (some ⟨b2,o2,none⟩) 2 c2,.slice (some ⟨b3,o3,none⟩) 6 c3] 33)).alloc (.cells #[.slice none 0 0,.int .i64 0,.int .i64 0,.int .i64 0,.slice none 0 0,.int .i64 0,.int .i64 0,.int .i64 0,.slice none 0 0,.int .i64 0,.int .i64 0,.int .i64 0,.int .i64 0,.int .i64 0,.int .i64 0,.int .i64 0,.int .i64 0,.int .i64 0] 89)) w.heap.size 25 [.slice (some ⟨bp,op,none⟩) 3 cap]:=blkOld _ (blkOld _ (blkAt _ _ _ rfl))
 have pS:Blk (((w.alloc (.cells #[.slice (some ⟨bp,op,none⟩) 3 cap] 25)).alloc (.cells #[.slice (some ⟨b0,o0,none⟩) 3 c0,.slice (some ⟨b1,o1,none⟩) 4 c1,.slice (some ⟨b2,o2,none⟩) 2 c2,.slice (some ⟨b3,o3,none⟩) 6 c3] 33)).alloc (.cells #[.slice none 0 0,.int .i64 0,.int .i64 0,.int .i64 0,.slice none 0 0,.int .i64 0,.int .i64 0,.int .i64 0,.slice none 0 0,.int .i64 0,.int .i64 0,.int .i64 0,.int .i64 0,.int .i64 0,.int .i64 0,.int .i64 0,.int .i64 0,.int .i64 0] 89)) (w.heap.size+1) 33 [.slice (some ⟨b0,o0,none⟩) 3 c0,.slice (some ⟨b1,o1,none⟩) 4 c1,.slice (some ⟨b2,o2,none⟩) 2 c2,.slice (some ⟨b3,o3,none⟩) 6 c3]:=blkOld _ (blkAt _ _ _ (by simp))
 have pR:Blk (((w.alloc (.cells #[.slice (some ⟨bp,op,none⟩) 3 cap] 25)).alloc (.cells #[.slice (some ⟨b0,o0,none⟩) 3 c0,.slice (some ⟨b1,o1,none⟩) 4 c1,.slice (some ⟨b2,o2,none⟩) 2 c2,.slice (some ⟨b3,o3,none⟩) 6 c3] 33)).alloc (.cells #[.slice none 0 0,.int .i64 0,.int .i64 0,.int .i64 0,.slice none 0 0,.int .i64 0,.int .i64 0,.int .i64 0,.slice none 0 0,.int .i64 0,.int .i64 0,.int .i64 0,.int .i64 0,.int .i64 0,.int .i64 0,.int .i64 0,.int .i64 0,.int .i64 0] 89)) (w.heap.size+1+1) 89 [.slice none 0 0,.int .i64 0,.int .i64 0,.int .i64 0,.slice none 0 0,.int .i64 0,.int .i64 0,.int .i64 0,.slice none 0 0,.int .i64 0,.int .i64 0,.int .i64 0,.int .i64 0,.int .i64 0,.int .i64 0,.int .i64 0,.int .i64 0,.int .i64 0]:=blkAt _ _ _ (by simp)
 go_enter Tryz.func71,Tryz.ntmps71
 go_wp2_with fail
 refine (kV _ (hC.below bw) (hM _ bw) (hV.below bw)).mono ?_
 rintro e w1 ⟨rfl,hb⟩
 replace bw:=bel_trans bw hb
 replace pP:=pP.below hb
 replace pS:=pS.below hb
 replace pR:=pR.below hb
 clear hb kV hM hV hC hs hp
 go_wp2_with fail
 have bm:Below w1.heap.size w1 (w1.alloc (.cells #[.slice none 0 0,.int .i64 0,.int .i64 0,.int .i64 0,.slice none 0 0,.int .i64 0,.int .i64 0,.int .i64 0,.slice none 0 0,.int .i64 0,.int .i64 0,.int .i64 0,.int .i64 0,.int .i64 0,.int .i64 0,.int .i64 0,.int .i64 0,.int .i64 0] 89)):=by go_grown
 have pM:=Blk.new w1 89 [.slice none 0 0,.int .i64 0,.int .i64 0,.int .i64 0,.slice none 0 0,.int .i64 0,.int .i64 0,.int .i64 0,.slice none 0 0,.int .i64 0,.int .i64 0,.int .i64 0,.int .i64 0,.int .i64 0,.int .i64 0,.int .i64 0,.int .i64 0,.int .i64 0]
 have hgM:w.heap.size+1+1<w1.heap.size:=pR.lt
 replace bw:=bel_trans bw bm
 replace pP:=pP.below bm
 replace pS:=pS.below bm
 replace pR:=pR.below bm
 clear bm
 generalize (w1.alloc (.cells #[.slice none 0 0,.int .i64 0,.int .i64 0,.int .i64 0,.slice none 0 0,.int .i64 0,.int .i64 0,.int .i64 0,.slice none 0 0,.int .i64 0,.int .i64 0,.int .i64 0,.int .i64 0,.int .i64 0,.int .i64 0,.int .i64 0,.int .i64 0,.int .i64 0] 89))=W2 at *
 generalize w1.heap.size=gM at *
 have g1:W2.cell? ⟨w.heap.size+1,1,none⟩=some (.slice (some ⟨b1,o1,none⟩) 4 c1):=by simpa using pS.cell 1
 refine wp_region_held_drew (S:=(fun w'=>w'.cell? ⟨w.heap.size+1,1,none⟩=some (.slice (some ⟨b1,o1,none⟩) 4 c1))) (by kernel_rfl) g1 (fun hS0=>?_)
 refine tkm 0 14 (.pointer (some ⟨gM,12,none⟩)) ?_
 refine tkm 1 15 (.slice (some ⟨gM,12,none⟩) 4 4) ?_
 refine tkm 2 16 (.pointer (some ⟨w.heap.size+1,1,none⟩)) ?_
 refine tkm 3 17 (.slice (some ⟨b1,o1,none⟩) 4 c1) ?_
 refine tkr 4 18 (fun K hK=>?_)
 refine step_copy_grown rfl _ _ 27 27 rfl 3 Tryz.underlying27 (by kernel_rfl) gM 12 ⟨b1,o1,none⟩ _ _ _ _ rfl rfl [.slice none 0 0,.int .i64 0,.int .i64 0,.int .i64 0,.slice none 0 0,.int .i64 0,.int .i64 0,.int .i64 0,.slice none 0 0,.int .i64 0,.int .i64 0,.int .i64 0,.int .i64 0,.int .i64 0,.int .i64 0,.int .i64 0,.int .i64 0,.int .i64 0] 89 pM.drew [.int .i64 v0,.int .i64 v1,.int .i64 v2,.int .i64 v3] (.int .i64 4) rfl rfl (by simpa using src_of (j1.below (bel_trans bw (by go_grown))) 0 4 (by decide)) (by simp) (by simp [Value.oneCell']) ?_
 intro W3 pM' gr
 have pM:=(show Blk W3 gM 89 [.slice none 0 0,.int .i64 0,.int .i64 0,.int .i64 0,.slice none 0 0,.int .i64 0,.int .i64 0,.int .i64 0,.slice none 0 0,.int .i64 0,.int .i64 0,.int .i64 0,.int .i64 v0,.int .i64 v1,.int .i64 v2,.int .i64 v3,.int .i64 0,.int .i64 0] from pM'.out)
 replace pP:=(pP.drew).kept gr (by simp;omega)
 replace pS:=(pS.drew).kept gr (by simp;omega)
 replace pR:=(pR.drew).kept gr (by simp;omega)
 replace bw:=(bel_trans bw (by go_grown:Below W2.heap.size W2 W2.drew)).grown gr (by have:=bw.size;exact this) (fun x hx=>by cases hx;omega)
 refine hK.out _ _ ?_ (fun hS1=>?_)
 ·simpa using pS.cell 1
 clear hK hS0 hS1 pM' gr
 try simp only [Act.put,tka,tkb,tkc]
 refine wpAnyH_done (by kernel_rfl) ?_ _
 clear g1
 go_wp2_with fail
 have g1:W3.cell? ⟨w.heap.size+1,2,none⟩=some (.slice (some ⟨b2,o2,none⟩) 2 c2):=by simpa using pS.cell 2
 refine wp_region_held_drew (S:=(fun w'=>w'.cell? ⟨w.heap.size+1,2,none⟩=some (.slice (some ⟨b2,o2,none⟩) 2 c2))) (by kernel_rfl) g1 (fun hS0=>?_)
 refine tkm 0 19 (.pointer (some ⟨gM,16,none⟩)) ?_
 refine tkm 1 20 (.slice (some ⟨gM,16,none⟩) 2 2) ?_
 refine tkm 2 21 (.pointer (some ⟨w.heap.size+1,2,none⟩)) ?_
 refine tkm 3 22 (.slice (some ⟨b2,o2,none⟩) 2 c2) ?_
 refine tkr 4 23 (fun K hK=>?_)
 refine step_copy_grown rfl _ _ 27 27 rfl 3 Tryz.underlying27 (by kernel_rfl) gM 16 ⟨b2,o2,none⟩ _ _ _ _ rfl rfl [.slice none 0 0,.int .i64 0,.int .i64 0,.int .i64 0,.slice none 0 0,.int .i64 0,.int .i64 0,.int .i64 0,.slice none 0 0,.int .i64 0,.int .i64 0,.int .i64 0,.int .i64 v0,.int .i64 v1,.int .i64 v2,.int .i64 v3,.int .i64 0,.int .i64 0] 89 pM.drew [.int .i64 h0,.int .i64 h1] (.int .i64 2) rfl rfl (by simpa using src_of (j2.below (bel_trans bw (by go_grown))) 0 2 (by decide)) (by simp) (by simp [Value.oneCell']) ?_
 intro W4 pM' gr
 have pM:=(show Blk W4 gM 89 [.slice none 0 0,.int .i64 0,.int .i64 0,.int .i64 0,.slice none 0 0,.int .i64 0,.int .i64 0,.int .i64 0,.slice none 0 0,.int .i64 0,.int .i64 0,.int .i64 0,.int .i64 v0,.int .i64 v1,.int .i64 v2,.int .i64 v3,.int .i64 h0,.int .i64 h1] from pM'.out)
 replace pP:=(pP.drew).kept gr (by simp;omega)
 replace pS:=(pS.drew).kept gr (by simp;omega)
 replace pR:=(pR.drew).kept gr (by simp;omega)
 replace bw:=(bel_trans bw (by go_grown:Below W3.heap.size W3 W3.drew)).grown gr (by have:=bw.size;exact this) (fun x hx=>by cases hx;omega)
 refine hK.out _ _ ?_ (fun hS1=>?_)
 ·simpa using pS.cell 2
 clear hK hS0 hS1 pM' gr
 try simp only [Act.put,tka,tkb,tkc]
 refine wpAnyH_done (by kernel_rfl) ?_ _
 clear g1
 obtain ⟨PM,q0,q1,q2,q3⟩:∃ PM:Nat→List Value,Hid (PM 0=[.slice none 0 0,.int .i64 0,.int .i64 0,.int .i64 0,.slice none 0 0,.int .i64 0,.int .i64 0,.int .i64 0,.slice none 0 0,.int .i64 0,.int .i64 0,.int .i64 0,.int .i64 v0,.int .i64 v1,.int .i64 v2,.int .i64 v3,.int .i64 h0,.int .i64 h1])∧Hid (PM 1=[.slice ca0 cn0 cc0,.int .i64 p0,.int .i64 x0,.int .i64 y0,.slice none 0 0,.int .i64 0,.int .i64 0,.int .i64 0,.slice none 0 0,.int .i64 0,.int .i64 0,.int .i64 0,.int .i64 v0,.int .i64 v1,.int .i64 v2,.int .i64 v3,.int .i64 h0,.int .i64 h1])∧Hid (PM 2=[.slice ca0 cn0 cc0,.int .i64 p0,.int .i64 x0,.int .i64 y0,.slice ca1 cn1 cc1,.int .i64 p1,.int .i64 x1,.int .i64 y1,.slice none 0 0,.int .i64 0,.int .i64 0,.int .i64 0,.int .i64 v0,.int .i64 v1,.int .i64 v2,.int .i64 v3,.int .i64 h0,.int .i64 h1])∧Hid (PM 3=[.slice ca0 cn0 cc0,.int .i64 p0,.int .i64 x0,.int .i64 y0,.slice ca1 cn1 cc1,.int .i64 p1,.int .i64 x1,.int .i64 y1,.slice ca2 cn2 cc2,.int .i64 p2,.int .i64 x2,.int .i64 y2,.int .i64 v0,.int .i64 v1,.int .i64 v2,.int .i64 v3,.int .i64 h0,.int .i64 h1]):=
  ⟨fun k=>if k=0 then [.slice none 0 0,.int .i64 0,.int .i64 0,.int .i64 0,.slice none 0 0,.int .i64 0,.int .i64 0,.int .i64 0,.slice none 0 0,.int .i64 0,.int .i64 0,.int .i64 0,.int .i64 v0,.int .i64 v1,.int .i64 v2,.int .i64 v3,.int .i64 h0,.int .i64 h1] else if k=1 then [.slice ca0 cn0 cc0,.int .i64 p0,.int .i64 x0,.int .i64 y0,.slice none 0 0,.int .i64 0,.int .i64 0,.int .i64 0,.slice none 0 0,.int .i64 0,.int .i64 0,.int .i64 0,.int .i64 v0,.int .i64 v1,.int .i64 v2,.int .i64 v3,.int .i64 h0,.int .i64 h1] else if k=2 then [.slice ca0 cn0 cc0,.int .i64 p0,.int .i64 x0,.int .i64 y0,.slice ca1 cn1 cc1,.int .i64 p1,.int .i64 x1,.int .i64 y1,.slice none 0 0,.int .i64 0,.int .i64 0,.int .i64 0,.int .i64 v0,.int .i64 v1,.int .i64 v2,.int .i64 v3,.int .i64 h0,.int .i64 h1] else [.slice ca0 cn0 cc0,.int .i64 p0,.int .i64 x0,.int .i64 y0,.slice ca1 cn1 cc1,.int .i64 p1,.int .i64 x1,.int .i64 y1,.slice ca2 cn2 cc2,.int .i64 p2,.int .i64 x2,.int .i64 y2,.int .i64 v0,.int .i64 v1,.int .i64 v2,.int .i64 v3,.int .i64 h0,.int .i64 h1],rfl,rfl,rfl,rfl⟩
 rw [← q0.out] at pM
 go_wp2_with fail
 go_loopw [24] (fun si wr=>∃ k:Nat,k≤3∧si=.int .i64 k∧Blk wr gM 89 (PM k)∧Blk wr w.heap.size 25 [.slice (some ⟨bp,op,none⟩) 3 cap]∧Blk wr (w.heap.size+1) 33 [.slice (some ⟨b0,o0,none⟩) 3 c0,.slice (some ⟨b1,o1,none⟩) 4 c1,.slice (some ⟨b2,o2,none⟩) 2 c2,.slice (some ⟨b3,o3,none⟩) 6 c3]∧Blk wr (w.heap.size+1+1) 89 [.slice none 0 0,.int .i64 0,.int .i64 0,.int .i64 0,.slice none 0 0,.int .i64 0,.int .i64 0,.int .i64 0,.slice none 0 0,.int .i64 0,.int .i64 0,.int .i64 0,.int .i64 0,.int .i64 0,.int .i64 0,.int .i64 0,.int .i64 0,.int .i64 0]∧Below w.heap.size w wr) (fun si _=>3 - (intOf si).toNat)
 case atStart=>exact ⟨0,by omega,rfl,pM,pP,pS,pR,bw⟩
 case round =>
  clear pM pP pS pR bw
  obtain ⟨k,hk,rfl,pM,pP,pS,pR,bw⟩:=hrel
  rcases (show k=0∨k=1∨k=2∨k=3 by omega) with rfl | rfl | rfl | rfl
  ·skip
   rw [q0.out] at pM
   have e0:=pP.cell 0
   have e1:=pS.cell 0
   have e3:=pS.cell 3
   simp only [List.getElem?_cons_zero,List.getElem?_cons_succ] at e0 e1 e3
   have e2:wr.cell? ⟨bp,op,none⟩=some (.slice ca0 cn0 cc0):=cells_kept bw _ _ r0
   have e4:wr.cell? ⟨b0,o0,none⟩=some (.int .i64 p0):=cells_kept bw _ _ (ints_at9 j0 (t:=0) (by decide))
   have f0:=pM.frozen 0
   have f1:=pM.frozen 1
   have u0:wr.cell? ⟨gM,0,none⟩=some (.slice none 0 0):=by simpa using pM.cell 0
   have u1:wr.cell? ⟨gM,1,none⟩=some (.int .i64 0):=by simpa using pM.cell 1
   go_wp2_with fail
   refine wp_region_held_drew (S:=(fun w'=>w'.cell? ⟨w.heap.size,0,none⟩=some (.slice (some ⟨bp,op,none⟩) 3 cap)∧w'.cell? ⟨w.heap.size+1,0,none⟩=some (.slice (some ⟨b0,o0,none⟩) 3 c0)∧w'.cell? ⟨bp,op,none⟩=some (.slice ca0 cn0 cc0)∧w'.cell? ⟨b0,o0,none⟩=some (.int .i64 p0))) (by kernel_rfl) ⟨e0,e1,e2,e4⟩ (fun hS0=>?_)
   refine tkm 0 30 (.pointer (some ⟨gM,0,none⟩)) ?_
   refine tkm 1 31 (.pointer (some ⟨gM,0,none⟩)) ?_
   refine tkm 2 32 (.pointer (some ⟨w.heap.size,0,none⟩)) ?_
   refine tkm 3 33 (.slice (some ⟨bp,op,none⟩) 3 cap) ?_
   refine tkm 4 34 (.int .i64 0) ?_
   refine tkm 5 35 (.pointer (some ⟨bp,op,none⟩)) ?_
   refine tkm 6 36 (.slice ca0 cn0 cc0) ?_
   refine tkm 7 37 (.pointer (some ⟨w.heap.size+1,0,none⟩)) ?_
   refine tkm 8 38 (.slice (some ⟨b0,o0,none⟩) 3 c0) ?_
   refine tkm 9 39 (.int .i64 0) ?_
   refine tkm 10 40 (.pointer (some ⟨b0,o0,none⟩)) ?_
   refine tkm 11 41 (.int .i64 p0) ?_
   refine tkm 12 42 (.pointer (some ⟨gM,0,none⟩)) ?_
   refine tkm 13 43 (.pointer (some ⟨gM,0,none⟩)) ?_
   refine tkz 14 (fun K hK=>?_)
   have nP:w.heap.size≠gM:=by omega
   have nS:w.heap.size+1≠gM:=by omega
   have nR:w.heap.size+1+1≠gM:=by omega
   have pM2:Blk (((wr.setCell ⟨gM,0,none⟩ (.slice ca0 cn0 cc0)).setCell ⟨gM,1,none⟩ (.int .i64 p0)).drew) gM 89 [.slice ca0 cn0 cc0,.int .i64 p0,.int .i64 0,.int .i64 0,.slice none 0 0,.int .i64 0,.int .i64 0,.int .i64 0,.slice none 0 0,.int .i64 0,.int .i64 0,.int .i64 0,.int .i64 v0,.int .i64 v1,.int .i64 v2,.int .i64 v3,.int .i64 h0,.int .i64 h1]:=(pM.set 0 (.slice ca0 cn0 cc0)).set 1 (.int .i64 p0)
   have z0:((wr.setCell ⟨gM,0,none⟩ (.slice ca0 cn0 cc0)).drew).cell? ⟨gM,1,none⟩=some (.int .i64 0):=by
    have:=(pM.set 0 (.slice ca0 cn0 cc0)).cell 1
    simpa using this
   have z1:((wr.setCell ⟨gM,0,none⟩ (.slice ca0 cn0 cc0)).drew).frozen? ⟨gM,1,none⟩=false:=(pM.set 0 (.slice ca0 cn0 cc0)).frozen 1
   have pP2:Blk ((wr.setCell ⟨gM,0,none⟩ (.slice ca0 cn0 cc0)).drew) w.heap.size 25 [.slice (some ⟨bp,op,none⟩) 3 cap]:=pP.off _ _ nP
   have pS2:Blk ((wr.setCell ⟨gM,0,none⟩ (.slice ca0 cn0 cc0)).drew) (w.heap.size+1) 33 [.slice (some ⟨b0,o0,none⟩) 3 c0,.slice (some ⟨b1,o1,none⟩) 4 c1,.slice (some ⟨b2,o2,none⟩) 2 c2,.slice (some ⟨b3,o3,none⟩) 6 c3]:=pS.off _ _ nS
   have pP3:Blk (((wr.setCell ⟨gM,0,none⟩ (.slice ca0 cn0 cc0)).setCell ⟨gM,1,none⟩ (.int .i64 p0)).drew) w.heap.size 25 [.slice (some ⟨bp,op,none⟩) 3 cap]:=(pP.off _ _ nP).off _ _ nP
   have pS3:Blk (((wr.setCell ⟨gM,0,none⟩ (.slice ca0 cn0 cc0)).setCell ⟨gM,1,none⟩ (.int .i64 p0)).drew) (w.heap.size+1) 33 [.slice (some ⟨b0,o0,none⟩) 3 c0,.slice (some ⟨b1,o1,none⟩) 4 c1,.slice (some ⟨b2,o2,none⟩) 2 c2,.slice (some ⟨b3,o3,none⟩) 6 c3]:=(pS.off _ _ nS).off _ _ nS
   have pR3:Blk (((wr.setCell ⟨gM,0,none⟩ (.slice ca0 cn0 cc0)).setCell ⟨gM,1,none⟩ (.int .i64 p0)).drew) (w.heap.size+1+1) 89 [.slice none 0 0,.int .i64 0,.int .i64 0,.int .i64 0,.slice none 0 0,.int .i64 0,.int .i64 0,.int .i64 0,.slice none 0 0,.int .i64 0,.int .i64 0,.int .i64 0,.int .i64 0,.int .i64 0,.int .i64 0,.int .i64 0,.int .i64 0,.int .i64 0]:=(pR.off _ _ nR).off _ _ nR
   have b3:Below w.heap.size w (((wr.setCell ⟨gM,0,none⟩ (.slice ca0 cn0 cc0)).setCell ⟨gM,1,none⟩ (.int .i64 p0)).drew):=((bw.setCell (p:=⟨gM,0,none⟩) (by simp;omega) (.slice ca0 cn0 cc0)).setCell (p:=⟨gM,1,none⟩) (by simp;omega) (.int .i64 p0)).drew
   have b2:Below w.heap.size w ((wr.setCell ⟨gM,0,none⟩ (.slice ca0 cn0 cc0)).drew):=(bw.setCell (p:=⟨gM,0,none⟩) (by simp;omega) (.slice ca0 cn0 cc0)).drew
   go_simp
   refine hK.out _ _ ?_ (fun hS1=>?_)
   ·exact ⟨by simpa using pP2.cell 0,by simpa using pS2.cell 0,cells_kept b2 _ _ r0,cells_kept b2 _ _ (ints_at9 j0 (t:=0) (by decide))⟩
   clear hK
   try simp only [Act.put,tka,tkb,tkc]
   refine tkm 15 44 (.pointer (some ⟨gM,0,none⟩)) ?_
   refine tkm 16 45 (.pointer (some ⟨gM,1,none⟩)) ?_
   refine tkz 17 (fun K hK=>?_)
   go_simp
   refine hK.out _ _ ?_ (fun hS2=>?_)
   ·exact ⟨by simpa using pP3.cell 0,by simpa using pS3.cell 0,cells_kept b3 _ _ r0,cells_kept b3 _ _ (ints_at9 j0 (t:=0) (by decide))⟩
   clear hK
   try simp only [Act.put,tka,tkb,tkc]
   refine wpAnyH_done (by kernel_rfl) ?_ _
   clear hS0 hS1 hS2 z0 z1 pP2 pS2 b2 e0 e1 e2 e3 e4 f0 f1 u0 u1 pM pP pS pR bw
   go_wp2_with fail
   generalize ((wr.setCell ⟨gM,0,none⟩ (.slice ca0 cn0 cc0)).setCell ⟨gM,1,none⟩ (.int .i64 p0)).drew=Wa at *
   have pM:=pM2
   have pP:=pP3
   have pS:=pS3
   have pR:=pR3
   have bw:=b3
   clear pM2 pP3 pS3 pR3 b3
   have g1:Wa.cell? ⟨w.heap.size+1,3,none⟩=some (.slice (some ⟨b3,o3,none⟩) 6 c3):=by simpa using pS.cell 3
   have hz:¬ c3=0:=by omega
   have hzi:(0:Int)≤(6:Int):=by decide
   refine wp_region_held_drew (S:=(fun w'=>w'.cell? ⟨w.heap.size+1,3,none⟩=some (.slice (some ⟨b3,o3,none⟩) 6 c3))) (by kernel_rfl) g1 (fun hS0=>?_)
   refine tkm 0 46 (.pointer (some ⟨gM,0,none⟩)) ?_
   refine tkm 1 47 (.pointer (some ⟨gM,0,none⟩)) ?_
   refine tkm 2 48 (.pointer (some ⟨gM,2,none⟩)) ?_
   refine tkm 3 49 (.slice (some ⟨gM,2,none⟩) 2 2) ?_
   refine tkm 4 50 (.pointer (some ⟨w.heap.size+1,3,none⟩)) ?_
   refine tkm 5 51 (.slice (some ⟨b3,o3,none⟩) 6 c3) ?_
   refine tkm 6 52 (.int .i64 0) ?_
   refine tkm 7 53 (.int .i64 0) ?_
   refine tkm 8 54 (.slice (some ⟨b3,o3,none⟩) 6 c3) ?_
   refine tkr 9 55 (fun K hK=>?_)
   refine step_copy_grown rfl _ _ 27 27 rfl 3 Tryz.underlying27 (by kernel_rfl) gM 2 ⟨b3,o3,none⟩ _ _ _ _ rfl rfl [.slice ca0 cn0 cc0,.int .i64 p0,.int .i64 0,.int .i64 0,.slice none 0 0,.int .i64 0,.int .i64 0,.int .i64 0,.slice none 0 0,.int .i64 0,.int .i64 0,.int .i64 0,.int .i64 v0,.int .i64 v1,.int .i64 v2,.int .i64 v3,.int .i64 h0,.int .i64 h1] 89 pM.drew [.int .i64 x0,.int .i64 y0] (.int .i64 2) rfl rfl (by simpa using src_of (j3.below (bel_trans bw (by go_grown))) 0 2 (by decide)) (by simp) (by simp [Value.oneCell']) ?_
   intro Wb pM' gr
   have pM:=(show Blk Wb gM 89 [.slice ca0 cn0 cc0,.int .i64 p0,.int .i64 x0,.int .i64 y0,.slice none 0 0,.int .i64 0,.int .i64 0,.int .i64 0,.slice none 0 0,.int .i64 0,.int .i64 0,.int .i64 0,.int .i64 v0,.int .i64 v1,.int .i64 v2,.int .i64 v3,.int .i64 h0,.int .i64 h1] from pM'.out)
   replace pP:=(pP.drew).kept gr (by simp;omega)
   replace pS:=(pS.drew).kept gr (by simp;omega)
   replace pR:=(pR.drew).kept gr (by simp;omega)
   replace bw:=(bel_trans bw (by go_grown:Below Wa.heap.size Wa Wa.drew)).grown gr (by have:=bw.size;exact this) (fun x hx=>by cases hx;omega)
   refine hK.out _ _ ?_ (fun hS1=>?_)
   ·simpa using pS.cell 3
   clear hK hS0 hS1 pM' gr
   try simp only [Act.put,tka,tkb,tkc]
   refine wpAnyH_done (by kernel_rfl) ?_ _
   rw [← q1.out] at pM
   clear g1 hz hzi
   go_wp2
   go_roundw
   case rel=>exact ⟨1,by omega,rfl,pM,pP,pS,pR,bw⟩
   case measure=>simp [intOf]
  ·skip
   rw [q1.out] at pM
   have e0:=pP.cell 0
   have e1:=pS.cell 0
   have e3:=pS.cell 3
   simp only [List.getElem?_cons_zero,List.getElem?_cons_succ] at e0 e1 e3
   have e2:wr.cell? ⟨bp,op+1,none⟩=some (.slice ca1 cn1 cc1):=cells_kept bw _ _ r1
   have e4:wr.cell? ⟨b0,o0+1,none⟩=some (.int .i64 p1):=cells_kept bw _ _ (ints_at9 j0 (t:=1) (by decide))
   have f0:=pM.frozen 4
   have f1:=pM.frozen 5
   have u0:wr.cell? ⟨gM,4,none⟩=some (.slice none 0 0):=by simpa using pM.cell 4
   have u1:wr.cell? ⟨gM,5,none⟩=some (.int .i64 0):=by simpa using pM.cell 5
   go_wp2_with fail
   refine wp_region_held_drew (S:=(fun w'=>w'.cell? ⟨w.heap.size,0,none⟩=some (.slice (some ⟨bp,op,none⟩) 3 cap)∧w'.cell? ⟨w.heap.size+1,0,none⟩=some (.slice (some ⟨b0,o0,none⟩) 3 c0)∧w'.cell? ⟨bp,op+1,none⟩=some (.slice ca1 cn1 cc1)∧w'.cell? ⟨b0,o0+1,none⟩=some (.int .i64 p1))) (by kernel_rfl) ⟨e0,e1,e2,e4⟩ (fun hS0=>?_)
   refine tkm 0 30 (.pointer (some ⟨gM,4,none⟩)) ?_
   refine tkm 1 31 (.pointer (some ⟨gM,4,none⟩)) ?_
   refine tkm 2 32 (.pointer (some ⟨w.heap.size,0,none⟩)) ?_
   refine tkm 3 33 (.slice (some ⟨bp,op,none⟩) 3 cap) ?_
   refine tkm 4 34 (.int .i64 1) ?_
   refine tkm 5 35 (.pointer (some ⟨bp,op+1,none⟩)) ?_
   refine tkm 6 36 (.slice ca1 cn1 cc1) ?_
   refine tkm 7 37 (.pointer (some ⟨w.heap.size+1,0,none⟩)) ?_
   refine tkm 8 38 (.slice (some ⟨b0,o0,none⟩) 3 c0) ?_
   refine tkm 9 39 (.int .i64 1) ?_
   refine tkm 10 40 (.pointer (some ⟨b0,o0+1,none⟩)) ?_
   refine tkm 11 41 (.int .i64 p1) ?_
   refine tkm 12 42 (.pointer (some ⟨gM,4,none⟩)) ?_
   refine tkm 13 43 (.pointer (some ⟨gM,4,none⟩)) ?_
   refine tkz 14 (fun K hK=>?_)
   have nP:w.heap.size≠gM:=by omega
   have nS:w.heap.size+1≠gM:=by omega
   have nR:w.heap.size+1+1≠gM:=by omega
   have pM2:Blk (((wr.setCell ⟨gM,4,none⟩ (.slice ca1 cn1 cc1)).setCell ⟨gM,5,none⟩ (.int .i64 p1)).drew) gM 89 [.slice ca0 cn0 cc0,.int .i64 p0,.int .i64 x0,.int .i64 y0,.slice ca1 cn1 cc1,.int .i64 p1,.int .i64 0,.int .i64 0,.slice none 0 0,.int .i64 0,.int .i64 0,.int .i64 0,.int .i64 v0,.int .i64 v1,.int .i64 v2,.int .i64 v3,.int .i64 h0,.int .i64 h1]:=(pM.set 4 (.slice ca1 cn1 cc1)).set 5 (.int .i64 p1)
   have z0:((wr.setCell ⟨gM,4,none⟩ (.slice ca1 cn1 cc1)).drew).cell? ⟨gM,5,none⟩=some (.int .i64 0):=by
    have:=(pM.set 4 (.slice ca1 cn1 cc1)).cell 5
    simpa using this
   have z1:((wr.setCell ⟨gM,4,none⟩ (.slice ca1 cn1 cc1)).drew).frozen? ⟨gM,5,none⟩=false:=(pM.set 4 (.slice ca1 cn1 cc1)).frozen 5
   have pP2:Blk ((wr.setCell ⟨gM,4,none⟩ (.slice ca1 cn1 cc1)).drew) w.heap.size 25 [.slice (some ⟨bp,op,none⟩) 3 cap]:=pP.off _ _ nP
   have pS2:Blk ((wr.setCell ⟨gM,4,none⟩ (.slice ca1 cn1 cc1)).drew) (w.heap.size+1) 33 [.slice (some ⟨b0,o0,none⟩) 3 c0,.slice (some ⟨b1,o1,none⟩) 4 c1,.slice (some ⟨b2,o2,none⟩) 2 c2,.slice (some ⟨b3,o3,none⟩) 6 c3]:=pS.off _ _ nS
   have pP3:Blk (((wr.setCell ⟨gM,4,none⟩ (.slice ca1 cn1 cc1)).setCell ⟨gM,5,none⟩ (.int .i64 p1)).drew) w.heap.size 25 [.slice (some ⟨bp,op,none⟩) 3 cap]:=(pP.off _ _ nP).off _ _ nP
   have pS3:Blk (((wr.setCell ⟨gM,4,none⟩ (.slice ca1 cn1 cc1)).setCell ⟨gM,5,none⟩ (.int .i64 p1)).drew) (w.heap.size+1) 33 [.slice (some ⟨b0,o0,none⟩) 3 c0,.slice (some ⟨b1,o1,none⟩) 4 c1,.slice (some ⟨b2,o2,none⟩) 2 c2,.slice (some ⟨b3,o3,none⟩) 6 c3]:=(pS.off _ _ nS).off _ _ nS
   have pR3:Blk (((wr.setCell ⟨gM,4,none⟩ (.slice ca1 cn1 cc1)).setCell ⟨gM,5,none⟩ (.int .i64 p1)).drew) (w.heap.size+1+1) 89 [.slice none 0 0,.int .i64 0,.int .i64 0,.int .i64 0,.slice none 0 0,.int .i64 0,.int .i64 0,.int .i64 0,.slice none 0 0,.int .i64 0,.int .i64 0,.int .i64 0,.int .i64 0,.int .i64 0,.int .i64 0,.int .i64 0,.int .i64 0,.int .i64 0]:=(pR.off _ _ nR).off _ _ nR
   have b3:Below w.heap.size w (((wr.setCell ⟨gM,4,none⟩ (.slice ca1 cn1 cc1)).setCell ⟨gM,5,none⟩ (.int .i64 p1)).drew):=((bw.setCell (p:=⟨gM,4,none⟩) (by simp;omega) (.slice ca1 cn1 cc1)).setCell (p:=⟨gM,5,none⟩) (by simp;omega) (.int .i64 p1)).drew
   have b2:Below w.heap.size w ((wr.setCell ⟨gM,4,none⟩ (.slice ca1 cn1 cc1)).drew):=(bw.setCell (p:=⟨gM,4,none⟩) (by simp;omega) (.slice ca1 cn1 cc1)).drew
   go_simp
   refine hK.out _ _ ?_ (fun hS1=>?_)
   ·exact ⟨by simpa using pP2.cell 0,by simpa using pS2.cell 0,cells_kept b2 _ _ r1,cells_kept b2 _ _ (ints_at9 j0 (t:=1) (by decide))⟩
   clear hK
   try simp only [Act.put,tka,tkb,tkc]
   refine tkm 15 44 (.pointer (some ⟨gM,4,none⟩)) ?_
   refine tkm 16 45 (.pointer (some ⟨gM,5,none⟩)) ?_
   refine tkz 17 (fun K hK=>?_)
   go_simp
   refine hK.out _ _ ?_ (fun hS2=>?_)
   ·exact ⟨by simpa using pP3.cell 0,by simpa using pS3.cell 0,cells_kept b3 _ _ r1,cells_kept b3 _ _ (ints_at9 j0 (t:=1) (by decide))⟩
   clear hK
   try simp only [Act.put,tka,tkb,tkc]
   refine wpAnyH_done (by kernel_rfl) ?_ _
   clear hS0 hS1 hS2 z0 z1 pP2 pS2 b2 e0 e1 e2 e3 e4 f0 f1 u0 u1 pM pP pS pR bw
   go_wp2_with fail
   generalize ((wr.setCell ⟨gM,4,none⟩ (.slice ca1 cn1 cc1)).setCell ⟨gM,5,none⟩ (.int .i64 p1)).drew=Wa at *
   have pM:=pM2
   have pP:=pP3
   have pS:=pS3
   have pR:=pR3
   have bw:=b3
   clear pM2 pP3 pS3 pR3 b3
   have g1:Wa.cell? ⟨w.heap.size+1,3,none⟩=some (.slice (some ⟨b3,o3,none⟩) 6 c3):=by simpa using pS.cell 3
   have hz:¬ c3=2:=by omega
   have hzi:(2:Int)≤(6:Int):=by decide
   refine wp_region_held_drew (S:=(fun w'=>w'.cell? ⟨w.heap.size+1,3,none⟩=some (.slice (some ⟨b3,o3,none⟩) 6 c3))) (by kernel_rfl) g1 (fun hS0=>?_)
   refine tkm 0 46 (.pointer (some ⟨gM,4,none⟩)) ?_
   refine tkm 1 47 (.pointer (some ⟨gM,4,none⟩)) ?_
   refine tkm 2 48 (.pointer (some ⟨gM,6,none⟩)) ?_
   refine tkm 3 49 (.slice (some ⟨gM,6,none⟩) 2 2) ?_
   refine tkm 4 50 (.pointer (some ⟨w.heap.size+1,3,none⟩)) ?_
   refine tkm 5 51 (.slice (some ⟨b3,o3,none⟩) 6 c3) ?_
   refine tkm 6 52 (.int .i64 1) ?_
   refine tkm 7 53 (.int .i64 2) ?_
   refine tkm 8 54 (.slice (some ⟨b3,o3+2,none⟩) 4 (c3 - 2)) ?_
   refine tkr 9 55 (fun K hK=>?_)
   refine step_copy_grown rfl _ _ 27 27 rfl 3 Tryz.underlying27 (by kernel_rfl) gM 6 ⟨b3,o3+2,none⟩ _ _ _ _ rfl rfl [.slice ca0 cn0 cc0,.int .i64 p0,.int .i64 x0,.int .i64 y0,.slice ca1 cn1 cc1,.int .i64 p1,.int .i64 0,.int .i64 0,.slice none 0 0,.int .i64 0,.int .i64 0,.int .i64 0,.int .i64 v0,.int .i64 v1,.int .i64 v2,.int .i64 v3,.int .i64 h0,.int .i64 h1] 89 pM.drew [.int .i64 x1,.int .i64 y1] (.int .i64 2) rfl rfl (by simpa using src_of (j3.below (bel_trans bw (by go_grown))) 2 2 (by decide)) (by simp) (by simp [Value.oneCell']) ?_
   intro Wb pM' gr
   have pM:=(show Blk Wb gM 89 [.slice ca0 cn0 cc0,.int .i64 p0,.int .i64 x0,.int .i64 y0,.slice ca1 cn1 cc1,.int .i64 p1,.int .i64 x1,.int .i64 y1,.slice none 0 0,.int .i64 0,.int .i64 0,.int .i64 0,.int .i64 v0,.int .i64 v1,.int .i64 v2,.int .i64 v3,.int .i64 h0,.int .i64 h1] from pM'.out)
   replace pP:=(pP.drew).kept gr (by simp;omega)
   replace pS:=(pS.drew).kept gr (by simp;omega)
   replace pR:=(pR.drew).kept gr (by simp;omega)
   replace bw:=(bel_trans bw (by go_grown:Below Wa.heap.size Wa Wa.drew)).grown gr (by have:=bw.size;exact this) (fun x hx=>by cases hx;omega)
   refine hK.out _ _ ?_ (fun hS1=>?_)
   ·simpa using pS.cell 3
   clear hK hS0 hS1 pM' gr
   try simp only [Act.put,tka,tkb,tkc]
   refine wpAnyH_done (by kernel_rfl) ?_ _
   rw [← q2.out] at pM
   clear g1 hz hzi
   go_wp2
   go_roundw
   case rel=>exact ⟨2,by omega,rfl,pM,pP,pS,pR,bw⟩
   case measure=>simp [intOf]
  ·skip
   rw [q2.out] at pM
   have e0:=pP.cell 0
   have e1:=pS.cell 0
   have e3:=pS.cell 3
   simp only [List.getElem?_cons_zero,List.getElem?_cons_succ] at e0 e1 e3
   have e2:wr.cell? ⟨bp,op+2,none⟩=some (.slice ca2 cn2 cc2):=cells_kept bw _ _ r2
   have e4:wr.cell? ⟨b0,o0+2,none⟩=some (.int .i64 p2):=cells_kept bw _ _ (ints_at9 j0 (t:=2) (by decide))
   have f0:=pM.frozen 8
   have f1:=pM.frozen 9
   have u0:wr.cell? ⟨gM,8,none⟩=some (.slice none 0 0):=by simpa using pM.cell 8
   have u1:wr.cell? ⟨gM,9,none⟩=some (.int .i64 0):=by simpa using pM.cell 9
   go_wp2_with fail
   refine wp_region_held_drew (S:=(fun w'=>w'.cell? ⟨w.heap.size,0,none⟩=some (.slice (some ⟨bp,op,none⟩) 3 cap)∧w'.cell? ⟨w.heap.size+1,0,none⟩=some (.slice (some ⟨b0,o0,none⟩) 3 c0)∧w'.cell? ⟨bp,op+2,none⟩=some (.slice ca2 cn2 cc2)∧w'.cell? ⟨b0,o0+2,none⟩=some (.int .i64 p2))) (by kernel_rfl) ⟨e0,e1,e2,e4⟩ (fun hS0=>?_)
   refine tkm 0 30 (.pointer (some ⟨gM,8,none⟩)) ?_
   refine tkm 1 31 (.pointer (some ⟨gM,8,none⟩)) ?_
   refine tkm 2 32 (.pointer (some ⟨w.heap.size,0,none⟩)) ?_
   refine tkm 3 33 (.slice (some ⟨bp,op,none⟩) 3 cap) ?_
   refine tkm 4 34 (.int .i64 2) ?_
   refine tkm 5 35 (.pointer (some ⟨bp,op+2,none⟩)) ?_
   refine tkm 6 36 (.slice ca2 cn2 cc2) ?_
   refine tkm 7 37 (.pointer (some ⟨w.heap.size+1,0,none⟩)) ?_
   refine tkm 8 38 (.slice (some ⟨b0,o0,none⟩) 3 c0) ?_
   refine tkm 9 39 (.int .i64 2) ?_
   refine tkm 10 40 (.pointer (some ⟨b0,o0+2,none⟩)) ?_
   refine tkm 11 41 (.int .i64 p2) ?_
   refine tkm 12 42 (.pointer (some ⟨gM,8,none⟩)) ?_
   refine tkm 13 43 (.pointer (some ⟨gM,8,none⟩)) ?_
   refine tkz 14 (fun K hK=>?_)
   have nP:w.heap.size≠gM:=by omega
   have nS:w.heap.size+1≠gM:=by omega
   have nR:w.heap.size+1+1≠gM:=by omega
   have pM2:Blk (((wr.setCell ⟨gM,8,none⟩ (.slice ca2 cn2 cc2)).setCell ⟨gM,9,none⟩ (.int .i64 p2)).drew) gM 89 [.slice ca0 cn0 cc0,.int .i64 p0,.int .i64 x0,.int .i64 y0,.slice ca1 cn1 cc1,.int .i64 p1,.int .i64 x1,.int .i64 y1,.slice ca2 cn2 cc2,.int .i64 p2,.int .i64 0,.int .i64 0,.int .i64 v0,.int .i64 v1,.int .i64 v2,.int .i64 v3,.int .i64 h0,.int .i64 h1]:=(pM.set 8 (.slice ca2 cn2 cc2)).set 9 (.int .i64 p2)
   have z0:((wr.setCell ⟨gM,8,none⟩ (.slice ca2 cn2 cc2)).drew).cell? ⟨gM,9,none⟩=some (.int .i64 0):=by
    have:=(pM.set 8 (.slice ca2 cn2 cc2)).cell 9
    simpa using this
   have z1:((wr.setCell ⟨gM,8,none⟩ (.slice ca2 cn2 cc2)).drew).frozen? ⟨gM,9,none⟩=false:=(pM.set 8 (.slice ca2 cn2 cc2)).frozen 9
   have pP2:Blk ((wr.setCell ⟨gM,8,none⟩ (.slice ca2 cn2 cc2)).drew) w.heap.size 25 [.slice (some ⟨bp,op,none⟩) 3 cap]:=pP.off _ _ nP
   have pS2:Blk ((wr.setCell ⟨gM,8,none⟩ (.slice ca2 cn2 cc2)).drew) (w.heap.size+1) 33 [.slice (some ⟨b0,o0,none⟩) 3 c0,.slice (some ⟨b1,o1,none⟩) 4 c1,.slice (some ⟨b2,o2,none⟩) 2 c2,.slice (some ⟨b3,o3,none⟩) 6 c3]:=pS.off _ _ nS
   have pP3:Blk (((wr.setCell ⟨gM,8,none⟩ (.slice ca2 cn2 cc2)).setCell ⟨gM,9,none⟩ (.int .i64 p2)).drew) w.heap.size 25 [.slice (some ⟨bp,op,none⟩) 3 cap]:=(pP.off _ _ nP).off _ _ nP
   have pS3:Blk (((wr.setCell ⟨gM,8,none⟩ (.slice ca2 cn2 cc2)).setCell ⟨gM,9,none⟩ (.int .i64 p2)).drew) (w.heap.size+1) 33 [.slice (some ⟨b0,o0,none⟩) 3 c0,.slice (some ⟨b1,o1,none⟩) 4 c1,.slice (some ⟨b2,o2,none⟩) 2 c2,.slice (some ⟨b3,o3,none⟩) 6 c3]:=(pS.off _ _ nS).off _ _ nS
   have pR3:Blk (((wr.setCell ⟨gM,8,none⟩ (.slice ca2 cn2 cc2)).setCell ⟨gM,9,none⟩ (.int .i64 p2)).drew) (w.heap.size+1+1) 89 [.slice none 0 0,.int .i64 0,.int .i64 0,.int .i64 0,.slice none 0 0,.int .i64 0,.int .i64 0,.int .i64 0,.slice none 0 0,.int .i64 0,.int .i64 0,.int .i64 0,.int .i64 0,.int .i64 0,.int .i64 0,.int .i64 0,.int .i64 0,.int .i64 0]:=(pR.off _ _ nR).off _ _ nR
   have b3:Below w.heap.size w (((wr.setCell ⟨gM,8,none⟩ (.slice ca2 cn2 cc2)).setCell ⟨gM,9,none⟩ (.int .i64 p2)).drew):=((bw.setCell (p:=⟨gM,8,none⟩) (by simp;omega) (.slice ca2 cn2 cc2)).setCell (p:=⟨gM,9,none⟩) (by simp;omega) (.int .i64 p2)).drew
   have b2:Below w.heap.size w ((wr.setCell ⟨gM,8,none⟩ (.slice ca2 cn2 cc2)).drew):=(bw.setCell (p:=⟨gM,8,none⟩) (by simp;omega) (.slice ca2 cn2 cc2)).drew
   go_simp
   refine hK.out _ _ ?_ (fun hS1=>?_)
   ·exact ⟨by simpa using pP2.cell 0,by simpa using pS2.cell 0,cells_kept b2 _ _ r2,cells_kept b2 _ _ (ints_at9 j0 (t:=2) (by decide))⟩
   clear hK
   try simp only [Act.put,tka,tkb,tkc]
   refine tkm 15 44 (.pointer (some ⟨gM,8,none⟩)) ?_
   refine tkm 16 45 (.pointer (some ⟨gM,9,none⟩)) ?_
   refine tkz 17 (fun K hK=>?_)
   go_simp
   refine hK.out _ _ ?_ (fun hS2=>?_)
   ·exact ⟨by simpa using pP3.cell 0,by simpa using pS3.cell 0,cells_kept b3 _ _ r2,cells_kept b3 _ _ (ints_at9 j0 (t:=2) (by decide))⟩
   clear hK
   try simp only [Act.put,tka,tkb,tkc]
   refine wpAnyH_done (by kernel_rfl) ?_ _
   clear hS0 hS1 hS2 z0 z1 pP2 pS2 b2 e0 e1 e2 e3 e4 f0 f1 u0 u1 pM pP pS pR bw
   go_wp2_with fail
   generalize ((wr.setCell ⟨gM,8,none⟩ (.slice ca2 cn2 cc2)).setCell ⟨gM,9,none⟩ (.int .i64 p2)).drew=Wa at *
   have pM:=pM2
   have pP:=pP3
   have pS:=pS3
   have pR:=pR3
   have bw:=b3
   clear pM2 pP3 pS3 pR3 b3
   have g1:Wa.cell? ⟨w.heap.size+1,3,none⟩=some (.slice (some ⟨b3,o3,none⟩) 6 c3):=by simpa using pS.cell 3
   have hz:¬ c3=4:=by omega
   have hzi:(4:Int)≤(6:Int):=by decide
   refine wp_region_held_drew (S:=(fun w'=>w'.cell? ⟨w.heap.size+1,3,none⟩=some (.slice (some ⟨b3,o3,none⟩) 6 c3))) (by kernel_rfl) g1 (fun hS0=>?_)
   refine tkm 0 46 (.pointer (some ⟨gM,8,none⟩)) ?_
   refine tkm 1 47 (.pointer (some ⟨gM,8,none⟩)) ?_
   refine tkm 2 48 (.pointer (some ⟨gM,10,none⟩)) ?_
   refine tkm 3 49 (.slice (some ⟨gM,10,none⟩) 2 2) ?_
   refine tkm 4 50 (.pointer (some ⟨w.heap.size+1,3,none⟩)) ?_
   refine tkm 5 51 (.slice (some ⟨b3,o3,none⟩) 6 c3) ?_
   refine tkm 6 52 (.int .i64 2) ?_
   refine tkm 7 53 (.int .i64 4) ?_
   refine tkm 8 54 (.slice (some ⟨b3,o3+4,none⟩) 2 (c3 - 4)) ?_
   refine tkr 9 55 (fun K hK=>?_)
   refine step_copy_grown rfl _ _ 27 27 rfl 3 Tryz.underlying27 (by kernel_rfl) gM 10 ⟨b3,o3+4,none⟩ _ _ _ _ rfl rfl [.slice ca0 cn0 cc0,.int .i64 p0,.int .i64 x0,.int .i64 y0,.slice ca1 cn1 cc1,.int .i64 p1,.int .i64 x1,.int .i64 y1,.slice ca2 cn2 cc2,.int .i64 p2,.int .i64 0,.int .i64 0,.int .i64 v0,.int .i64 v1,.int .i64 v2,.int .i64 v3,.int .i64 h0,.int .i64 h1] 89 pM.drew [.int .i64 x2,.int .i64 y2] (.int .i64 2) rfl rfl (by simpa using src_of (j3.below (bel_trans bw (by go_grown))) 4 2 (by decide)) (by simp) (by simp [Value.oneCell']) ?_
   intro Wb pM' gr
   have pM:=(show Blk Wb gM 89 [.slice ca0 cn0 cc0,.int .i64 p0,.int .i64 x0,.int .i64 y0,.slice ca1 cn1 cc1,.int .i64 p1,.int .i64 x1,.int .i64 y1,.slice ca2 cn2 cc2,.int .i64 p2,.int .i64 x2,.int .i64 y2,.int .i64 v0,.int .i64 v1,.int .i64 v2,.int .i64 v3,.int .i64 h0,.int .i64 h1] from pM'.out)
   replace pP:=(pP.drew).kept gr (by simp;omega)
   replace pS:=(pS.drew).kept gr (by simp;omega)
   replace pR:=(pR.drew).kept gr (by simp;omega)
   replace bw:=(bel_trans bw (by go_grown:Below Wa.heap.size Wa Wa.drew)).grown gr (by have:=bw.size;exact this) (fun x hx=>by cases hx;omega)
   refine hK.out _ _ ?_ (fun hS1=>?_)
   ·simpa using pS.cell 3
   clear hK hS0 hS1 pM' gr
   try simp only [Act.put,tka,tkb,tkc]
   refine wpAnyH_done (by kernel_rfl) ?_ _
   rw [← q3.out] at pM
   clear g1 hz hzi
   go_wp2
   go_roundw
   case rel=>exact ⟨3,by omega,rfl,pM,pP,pS,pR,bw⟩
   case measure=>simp [intOf]
  ·rw [q3.out] at pM
   go_wp2_with (first | refine wpList_load_blk rfl 89 _ rfl gM rfl pM _ Tryz.underlying89 rfl (by kernel_rfl) ?_ | refine wpList_store_blk rfl 89 _ _ rfl (w.heap.size+1+1) [.slice ca0 cn0 cc0,.int .i64 p0,.int .i64 x0,.int .i64 y0,.slice ca1 cn1 cc1,.int .i64 p1,.int .i64 x1,.int .i64 y1,.slice ca2 cn2 cc2,.int .i64 p2,.int .i64 x2,.int .i64 y2,.int .i64 v0,.int .i64 v1,.int .i64 v2,.int .i64 v3,.int .i64 h0,.int .i64 h1] rfl rfl pR (by kernel_rfl) rfl rfl ?_)
   intro w9 pR9 g9
   replace bw:=bw.grown g9 bw.size (fun k hk=>by cases hk;omega)
   clear g9 pR pM pP pS
   go_wp2_with fail
   refine bodyPost_ret (results_blk2 Tryz.results71 _ _ _ _ _ _ rfl pR9.out Tryz.underlying89 rfl (by kernel_rfl)) rfl ?_
   exact ⟨⟨((ca0,cn0,cc0),(ca1,cn1,cc1),(ca2,cn2,cc2)),rfl,HI.out⟩,bw⟩
end Go.Proofs.YtifoggpohlegmaaGreatDoor
