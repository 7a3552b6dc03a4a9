/-
  Joined: SpecO, MachO, MachE, SpecC, SpecE.
-/
import Derived.Test.YtdopgkbegjfhjaaGreatDoorL25

namespace Go.Proofs.YtdopgkbegjfhjaaGreatDoor
set_option maxRecDepth 100000
set_option maxHeartbeats 16000000
open Go.RowKit
set_option linter.unusedVariables false
set_option linter.unusedSimpArgs false

def VmOne (e:Ending) (w:World) (B:Nat) (z:V4):Prop:=∃ t:S4,e=.returned t.val∧OwnV w B t z
theorem VmOne.mk9 {e:Ending} {w:World} {B:Nat} {z:V4} (t:S4) (h:e=.returned t.val) (hO:OwnV w B t z):VmOne e w B z:=⟨t,h,hO⟩

theorem wpAnyH_inv {P:Program} {md:Region.Mode} {ops:Array Oper} {Q:Exit→Act→World→Prop} {S:World→Prop} (I:Nat→Array Bool→Act→World→Prop) (k:Nat)
  (hne:∀ n listed a w,I (n+1) listed a w→Region.ready md ops listed≠[])
  (hstep:∀ n listed a w,I (n+1) listed a w→∀ i ∈ Region.ready md ops listed,wpOp P ops Q i (fun a' w'=>S w'∧I n (listed.setIfInBounds i true) a' w') a w)
  (hend:∀ listed a w,I 0 listed a w→wpAnyH P md ops Q S k listed a w):∀ n listed a w,I n listed a w→wpAnyH P md ops Q S (n+k) listed a w
 | 0,listed,a,w,h=>by rw [Nat.zero_add];exact hend listed a w h
 | n+1,listed,a,w,h=>by
  rw [show n+1+k=(n+k)+1 by omega]
  refine ⟨fun h0=>absurd h0 (hne n listed a w h),fun i hi=>wpOp_mono (fun a' w' h'=>⟨h'.1,wpAnyH_inv I k hne hstep hend n _ a' w' h'.2⟩) (hstep n listed a w h i hi)⟩

theorem step_append_at {P:Program} {ops:Array Oper} {o:Oper} {a:Act} {w:World} {K:Act→World→Prop} {Q:Exit→Act→World→Prop} {E:Prop}
  (hg:o.guard=none) (s x:Operand) (t:TypeId) (hop:o.op=Op.call { callee:=Callee.builtin Builtin.append,args:=#[s,x],argTypes:=#[t,t] })
  (base:Nat) (e:TypeId) (i:TypeInfo) (z:Value) (size bytes:Nat) (h1:P.underlying t=some (.slice e)) (h2:P.info? e=some i) (h3:i.zero=some z) (h4:i.size=size) (h5:i.bytes=bytes) (h6:z.cells.size=size) (h7:0<size)
  (v:Value) (n:Nat) (olds:List Value) (hs:a.eval s=v) (hown:w.ownsRow base e size v n olds)
  (ad:Addr) (m c:Nat) (news:List Value) (hx:a.eval x=.slice (some ad) m c) (hn:news.length=m*size) (hc:∀ j u,news[j]?=some u→w.cell? (ad.add j)=some u) (h1c:∀ u ∈ news,u.oneCell'=true)
  (b1:n+m≤maxLen) (b2:(n+m)*bytes≤140737488355328) (hbw:base≤w.heap.size)
  (hK:∀ v' w',w'.ownsRow base e size v' (n+m) (olds++news)→w.grownBy w' v.ownBlock→(v'.ownBlock=v.ownBlock∨v'.ownBlock=some w.heap.size)→K (a.put o.dst v') w') :
  if Region.wanted o (yielded ops a.tmps)=true then Oper.wp P o a w K Q else E:=by
 have hw:Region.wanted o (yielded ops a.tmps)=true:=by simp [Region.wanted,hg]
 rw [if_pos hw]
 obtain ⟨v',w',hrun,r1,r2,_,r4⟩:=run_append_own_at (P:=P) (w:=w) base t o.type e i z size bytes h1 h2 h3 h4 h5 h6 h7 v n olds hown ad m c news hn hc h1c b1 b2 hbw
 subst hs
 unfold Oper.wp
 simp [execOp,hop,resolve,invoke,builtin,hx,hrun,Result.andThen]
 exact hK v' w' r1 r2 r4

def Chain (W:World) (B:Nat) (e d:Bool) (x y v:Value) (zs:List Int):Prop:=
 (d=true→e=true∧y=v∧W.ownsRow B 3 1 v zs.length (zs.map (Value.int .i64)))∧(d=false→e=true→x=v∧W.ownsRow B 3 1 v 0 [])∧(e=false→d=false∧v=.slice none 0 0)
def Ap (v u:Value):Prop:=∀ g,v.ownBlock=some g→u.ownBlock≠some g
theorem Ap.symm {v u:Value} (h:Ap v u):Ap u v:=fun g h1 h2=>h g h2 h1
def cn1 (b:Bool):Nat:=if b then 0 else 1
theorem Chain.row {W:World} {B:Nat} {e d:Bool} {x y v:Value} {zs:List Int} (h:Chain W B e d x y v zs):∃ n xs,W.ownsRow B 3 1 v n xs:=by
 cases d
 ·cases e
  ·obtain ⟨_,rfl⟩:=h.2.2 rfl
   exact ⟨0,[],World.ownsRow_nil _ _ _ _⟩
  ·exact ⟨_,_,(h.2.1 rfl rfl).2⟩
 ·exact ⟨_,_,(h.1 rfl).2.2⟩
theorem Chain.lt {W:World} {B:Nat} {e d:Bool} {x y v:Value} {zs:List Int} (h:Chain W B e d x y v zs) {g:Nat} (hg:v.ownBlock=some g):g<W.heap.size:=by
 obtain ⟨n,xs,hr⟩:=h.row
 exact (hr.lt g hg).2
theorem Chain.kept {W W':World} {B:Nat} {e d:Bool} {x y v u:Value} {zs:List Int} (h:Chain W B e d x y v zs) (hg:W.grownBy W' u.ownBlock) (ha:Ap v u):Chain W' B e d x y v zs:=by
 have hn:v.ownBlock=none∨v.ownBlock≠u.ownBlock:=by
  cases hv:v.ownBlock with
  | none=>exact .inl rfl
  | some g=>exact .inr fun e=>ha g hv e.symm
 exact ⟨fun h1=>⟨(h.1 h1).1,(h.1 h1).2.1,(h.1 h1).2.2.kept hg hn⟩,fun h1 h2=>⟨(h.2.1 h1 h2).1,(h.2.1 h1 h2).2.kept hg hn⟩,h.2.2⟩
theorem Chain.new {W:World} {B:Nat} {e d:Bool} {x y v:Value} {zs:List Int} (h:Chain W B e d x y v zs) (ob:Obj):Chain (W.alloc ob) B e d x y v zs:=
 ⟨fun h1=>⟨(h.1 h1).1,(h.1 h1).2.1,(h.1 h1).2.2.alloc _⟩,fun h1 h2=>⟨(h.2.1 h1 h2).1,(h.2.1 h1 h2).2.alloc _⟩,h.2.2⟩
theorem Ap.new {W:World} {B:Nat} {e d:Bool} {x y v:Value} {zs:List Int} (h:Chain W B e d x y v zs) (n c:Nat):Ap v (.slice (some ⟨W.heap.size,0,none⟩) n c):=fun g hg h2=>by
 have:=h.lt hg
 simp [Value.ownBlock] at h2
 omega
theorem Ap.grown {W:World} {B:Nat} {e d:Bool} {x y v u u':Value} {zs:List Int} (h:Chain W B e d x y v zs) (ha:Ap v u) (hu:u'.ownBlock=u.ownBlock∨u'.ownBlock=some W.heap.size):Ap v u':=fun g hg h2=>by
 rcases hu with hu | hu
 ·exact ha g hg (hu▸h2)
 ·have:=h.lt hg
  rw [hu] at h2
  simp at h2
  omega

def InvO (w:World) (b0 o0 c0 b1 o1 c1 b2 o2 c2 b3 o3 c3:Nat) (m:V4) (n:Nat) (listed:Array Bool) (a:Act) (W:World):Prop:=
 ∃ (e0 e1 e2 e3 d0 d1 d2 d3:Bool) (x0 x1 x2 x3 y0 y1 y2 y3 v0 v1 v2 v3:Value),
  n=cn1 e0+cn1 d0+(cn1 e1+cn1 d1)+(cn1 e2+cn1 d2)+(cn1 e3+cn1 d3)∧listed=#[e0,true,true,d0,e1,true,true,d1,e2,true,true,d2,e3,true,true,d3,false,false]∧a={ tmps:=#[.agg #[.slice (some ⟨b0,o0,none⟩) 3 c0,.slice (some ⟨b1,o1,none⟩) 4 c1,.slice (some ⟨b2,o2,none⟩) 2 c2,.slice (some ⟨b3,o3,none⟩) 6 c3],.pointer (some ⟨w.heap.size,0,none⟩),.pointer (some ⟨w.heap.size+1,0,none⟩),x0,.pointer (some ⟨w.heap.size,0,none⟩),.slice (some ⟨b0,o0,none⟩) 3 c0,y0,x1,.pointer (some ⟨w.heap.size,1,none⟩),.slice (some ⟨b1,o1,none⟩) 4 c1,y1,x2,.pointer (some ⟨w.heap.size,2,none⟩),.slice (some ⟨b2,o2,none⟩) 2 c2,y2,x3,.pointer (some ⟨w.heap.size,3,none⟩),.slice (some ⟨b3,o3,none⟩) 6 c3,y3,undef],defers:=[] } ∧
  (Chain W w.heap.size e0 d0 x0 y0 v0 m.1∧Chain W w.heap.size e1 d1 x1 y1 v1 m.2.1∧Chain W w.heap.size e2 d2 x2 y2 v2 m.2.2.1∧Chain W w.heap.size e3 d3 x3 y3 v3 m.2.2.2) ∧
  (Ap v0 v1∧Ap v0 v2∧Ap v0 v3∧Ap v1 v2∧Ap v1 v3∧Ap v2 v3) ∧
  Blk W w.heap.size 123 [.slice (some ⟨b0,o0,none⟩) 3 c0,.slice (some ⟨b1,o1,none⟩) 4 c1,.slice (some ⟨b2,o2,none⟩) 2 c2,.slice (some ⟨b3,o3,none⟩) 6 c3]∧Blk W (w.heap.size+1) 123 [.slice none 0 0,.slice none 0 0,.slice none 0 0,.slice none 0 0]∧Below w.heap.size w W

theorem l03Own_is (s:S4) (m:V4) (w:World) (h:Vmem w s m) (hs:shapeOk m=true) :
  Calls Tryz.prog 144 #[s.val] w fun e w'=>VmOne e w' w.heap.size m∧Below w.heap.size w w':=by
 obtain ⟨i0,hi,hz0,hz1,hz2⟩:=info_parts info_int
 obtain ⟨l0,l1,l2,l3,_⟩:=shape_parts hs
 obtain ⟨⟨j0,_⟩,⟨j1,_⟩,⟨j2,_⟩,⟨j3,_⟩⟩:=h
 obtain ⟨⟨a0,n0,c0⟩,⟨a1,n1,c1⟩,⟨a2,n2,c2⟩,⟨a3,n3,c3⟩⟩:=s
 simp only at j0 j1 j2 j3
 obtain ⟨rfl,b0,o0,rfl⟩:=some_of_ints j0 l0 (by omega)
 obtain ⟨rfl,b1,o1,rfl⟩:=some_of_ints j1 l1 (by omega)
 obtain ⟨rfl,b2,o2,rfl⟩:=some_of_ints j2 l2 (by omega)
 obtain ⟨rfl,b3,o3,rfl⟩:=some_of_ints j3 l3 (by omega)
 have uA:S4.val ((some ⟨b0,o0,none⟩,3,c0),(some ⟨b1,o1,none⟩,4,c1),(some ⟨b2,o2,none⟩,2,c2),(some ⟨b3,o3,none⟩,6,c3))=.agg #[.slice (some ⟨b0,o0,none⟩) 3 c0,.slice (some ⟨b1,o1,none⟩) 4 c1,.slice (some ⟨b2,o2,none⟩) 2 c2,.slice (some ⟨b3,o3,none⟩) 6 c3]:=rfl
 rw [uA]
 clear uA
 have bw:Below w.heap.size w ((w.alloc (.cells #[.slice (some ⟨b0,o0,none⟩) 3 c0,.slice (some ⟨b1,o1,none⟩) 4 c1,.slice (some ⟨b2,o2,none⟩) 2 c2,.slice (some ⟨b3,o3,none⟩) 6 c3] 123)).alloc (.cells #[.slice none 0 0,.slice none 0 0,.slice none 0 0,.slice none 0 0] 123)):=by go_grown
 have pP:Blk ((w.alloc (.cells #[.slice (some ⟨b0,o0,none⟩) 3 c0,.slice (some ⟨b1,o1,none⟩) 4 c1,.slice (some ⟨b2,o2,none⟩) 2 c2,.slice (some ⟨b3,o3,none⟩) 6 c3] 123)).alloc (.cells #[.slice none 0 0,.slice none 0 0,.slice none 0 0,.slice none 0 0] 123)) w.heap.size 123 [.slice (some ⟨b0,o0,none⟩) 3 c0,.slice (some ⟨b1,o1,none⟩) 4 c1,.slice (some ⟨b2,o2,none⟩) 2 c2,.slice (some ⟨b3,o3,none⟩) 6 c3]:=blkOld _ (blkAt _ _ _ rfl)
 have pR:Blk ((w.alloc (.cells #[.slice (some ⟨b0,o0,none⟩) 3 c0,.slice (some ⟨b1,o1,none⟩) 4 c1,.slice (some ⟨b2,o2,none⟩) 2 c2,.slice (some ⟨b3,o3,none⟩) 6 c3] 123)).alloc (.cells #[.slice none 0 0,.slice none 0 0,.slice none 0 0,.slice none 0 0] 123)) (w.heap.size+1) 123 [.slice none 0 0,.slice none 0 0,.slice none 0 0,.slice none 0 0]:=blkAt _ _ _ (by simp)
 go_enter Tryz.func144,Tryz.ntmps144
 go_wp2_with fail
 generalize ((w.alloc (.cells #[.slice (some ⟨b0,o0,none⟩) 3 c0,.slice (some ⟨b1,o1,none⟩) 4 c1,.slice (some ⟨b2,o2,none⟩) 2 c2,.slice (some ⟨b3,o3,none⟩) 6 c3] 123)).alloc (.cells #[.slice none 0 0,.slice none 0 0,.slice none 0 0,.slice none 0 0] 123))=W0 at *
 have g0:=pP.cell 0
 have g1:=pP.cell 1
 have g2:=pP.cell 2
 have g3:=pP.cell 3
 simp only [List.getElem?_cons_zero,List.getElem?_cons_succ] at g0 g1 g2 g3
 refine wp_region_held_drew (S:=(fun w'=>w'.cell? ⟨w.heap.size,0,none⟩=some (.slice (some ⟨b0,o0,none⟩) 3 c0)∧w'.cell? ⟨w.heap.size,1,none⟩=some (.slice (some ⟨b1,o1,none⟩) 4 c1)∧w'.cell? ⟨w.heap.size,2,none⟩=some (.slice (some ⟨b2,o2,none⟩) 2 c2)∧w'.cell? ⟨w.heap.size,3,none⟩=some (.slice (some ⟨b3,o3,none⟩) 6 c3))) (by kernel_rfl) ⟨g0,g1,g2,g3⟩ (fun hS0=>?_)
 refine tkm 1 4 (.pointer (some ⟨w.heap.size,0,none⟩)) ?_
 refine tkm 2 5 (.slice (some ⟨b0,o0,none⟩) 3 c0) ?_
 refine tkm 5 8 (.pointer (some ⟨w.heap.size,1,none⟩)) ?_
 refine tkm 6 9 (.slice (some ⟨b1,o1,none⟩) 4 c1) ?_
 refine tkm 9 12 (.pointer (some ⟨w.heap.size,2,none⟩)) ?_
 refine tkm 10 13 (.slice (some ⟨b2,o2,none⟩) 2 c2) ?_
 refine tkm 13 16 (.pointer (some ⟨w.heap.size,3,none⟩)) ?_
 refine tkm 14 17 (.slice (some ⟨b3,o3,none⟩) 6 c3) ?_
 clear g0 g1 g2 g3 hS0
 refine wpAnyH_inv (InvO w b0 o0 c0 b1 o1 c1 b2 o2 c2 b3 o3 c3 m) 2 ?ne ?step ?fin 8 _ _ _ ?start
 case start =>
  have hc:∀ zs,Chain W0.drew w.heap.size false false undef undef (.slice none 0 0) zs:=fun zs=>⟨(fun h=>by cases h),(fun _ h=>by cases h),fun _=>⟨rfl,rfl⟩⟩
  have ha:Ap (.slice none 0 0) (.slice none 0 0):=fun g hg=>by simp [Value.ownBlock] at hg
  exact ⟨false,false,false,false,false,false,false,false,undef,undef,undef,undef,undef,undef,undef,undef,.slice none 0 0,.slice none 0 0,.slice none 0 0,.slice none 0 0,rfl,rfl,rfl,⟨hc _,hc _,hc _,hc _⟩,⟨ha,ha,ha,ha,ha,ha⟩,pP.drew,pR.drew,bw.drew⟩
 case ne =>
  rintro n listed a W ⟨e0,e1,e2,e3,d0,d1,d2,d3,x0,x1,x2,x3,y0,y1,y2,y3,v0,v1,v2,v3,hn,rfl,rfl,⟨k0,k1,k2,k3⟩,_⟩ h0
  have z0:=k0.2.2
  have z1:=k1.2.2
  have z2:=k2.2.2
  have z3:=k3.2.2
  clear k0 k1 k2 k3
  revert h0 hn z0 z1 z2 z3
  cases e0<;>cases d0<;>cases e1<;>cases d1<;>cases e2<;>cases d2<;>cases e3<;>cases d3<;>intro hn h0 z0 z1 z2 z3<;>first | exact absurd (z0 rfl).1 (by decide) | exact absurd (z1 rfl).1 (by decide) | exact absurd (z2 rfl).1 (by decide) | exact absurd (z3 rfl).1 (by decide) | (exfalso;simp [cn1] at hn;done) | exact absurd h0 (of_decide_eq_false (by kernel_rfl))
 case fin =>
  rintro listed a W ⟨e0,e1,e2,e3,d0,d1,d2,d3,x0,x1,x2,x3,y0,y1,y2,y3,v0,v1,v2,v3,hn,rfl,rfl,⟨k0,k1,k2,k3⟩,⟨a01,a02,a03,a12,a13,a23⟩,pP,pR,bw⟩
  obtain ⟨rfl,rfl,rfl,rfl,rfl,rfl,rfl,rfl⟩:e0=true∧e1=true∧e2=true∧e3=true∧d0=true∧d1=true∧d2=true∧d3=true:=by
   unfold cn1 at hn
   cases e0<;>cases d0<;>cases e1<;>cases d1<;>cases e2<;>cases d2<;>cases e3<;>cases d3<;>simp at hn ⊢
  obtain ⟨_,rfl,q0⟩:=k0.1 rfl
  obtain ⟨_,rfl,q1⟩:=k1.1 rfl
  obtain ⟨_,rfl,q2⟩:=k2.1 rfl
  obtain ⟨_,rfl,q3⟩:=k3.1 rfl
  clear k0 k1 k2 k3 hn
  rw [l0] at q0
  rw [l1] at q1
  rw [l2] at q2
  rw [l3] at q3
  obtain ⟨gg0,cc0,rfl⟩:∃ g c,y0=.slice (some ⟨g,0,none⟩) 3 c:=by
   rcases q0.2 with ⟨_,h5⟩ | ⟨g,cap,cur,hv,_⟩
   ·exact absurd h5 (by decide)
   ·exact ⟨g,cap,hv⟩
  obtain ⟨gg1,cc1,rfl⟩:∃ g c,y1=.slice (some ⟨g,0,none⟩) 4 c:=by
   rcases q1.2 with ⟨_,h5⟩ | ⟨g,cap,cur,hv,_⟩
   ·exact absurd h5 (by decide)
   ·exact ⟨g,cap,hv⟩
  obtain ⟨gg2,cc2,rfl⟩:∃ g c,y2=.slice (some ⟨g,0,none⟩) 2 c:=by
   rcases q2.2 with ⟨_,h5⟩ | ⟨g,cap,cur,hv,_⟩
   ·exact absurd h5 (by decide)
   ·exact ⟨g,cap,hv⟩
  obtain ⟨gg3,cc3,rfl⟩:∃ g c,y3=.slice (some ⟨g,0,none⟩) 6 c:=by
   rcases q3.2 with ⟨_,h5⟩ | ⟨g,cap,cur,hv,_⟩
   ·exact absurd h5 (by decide)
   ·exact ⟨g,cap,hv⟩
  have hO:OwnV W w.heap.size ((some ⟨gg0,0,none⟩,3,cc0),(some ⟨gg1,0,none⟩,4,cc1),(some ⟨gg2,0,none⟩,2,cc2),(some ⟨gg3,0,none⟩,6,cc3)) m:=⟨⟨q0,q1,q2,q3⟩,a01,a02,a03,a12,a13,a23⟩
  clear q0 q1 q2 q3 a01 a02 a03 a12 a13 a23 j0 j1 j2 j3
  have hS0:(fun w':World=>w'.cell? ⟨w.heap.size,0,none⟩=some (.slice (some ⟨b0,o0,none⟩) 3 c0)∧w'.cell? ⟨w.heap.size,1,none⟩=some (.slice (some ⟨b1,o1,none⟩) 4 c1)∧w'.cell? ⟨w.heap.size,2,none⟩=some (.slice (some ⟨b2,o2,none⟩) 2 c2)∧w'.cell? ⟨w.heap.size,3,none⟩=some (.slice (some ⟨b3,o3,none⟩) 6 c3)) W:=⟨by simpa using pP.cell 0,by simpa using pP.cell 1,by simpa using pP.cell 2,by simpa using pP.cell 3⟩
  refine wpAnyH_take (i:=16) (oi:=⟨some 19,_,_,_,_,_⟩) (v:=.agg #[.slice (some ⟨gg0,0,none⟩) 3 cc0,.slice (some ⟨gg1,0,none⟩) 4 cc1,.slice (some ⟨gg2,0,none⟩) 2 cc2,.slice (some ⟨gg3,0,none⟩) 6 cc3]) rfl (by kernel_rfl) (by kernel_rfl) (by kernel_rfl) (fun _ _ _ h=>h) (Or.inl ⟨by rfl,?_⟩) hS0 ?_
  ·(intro w' hSw;(try dsimp only at hSw);go_simp;try rfl)
  simp only [Act.put,tka,tkb,tkc]
  have nPR:w.heap.size≠w.heap.size+1:=by omega
  have r0:W.cell? ⟨w.heap.size+1,0,none⟩=some (.slice none 0 0):=by simpa using pR.cell 0
  have r1:W.cell? ⟨w.heap.size+1,1,none⟩=some (.slice none 0 0):=by simpa using pR.cell 1
  have r2:W.cell? ⟨w.heap.size+1,2,none⟩=some (.slice none 0 0):=by simpa using pR.cell 2
  have r3:W.cell? ⟨w.heap.size+1,3,none⟩=some (.slice none 0 0):=by simpa using pR.cell 3
  have f0:=pR.frozen 0
  have f1:=pR.frozen 1
  have f2:=pR.frozen 2
  have f3:=pR.frozen 3
  have pR4:=(((pR.set 0 (.slice (some ⟨gg0,0,none⟩) 3 cc0)).set 1 (.slice (some ⟨gg1,0,none⟩) 4 cc1)).set 2 (.slice (some ⟨gg2,0,none⟩) 2 cc2)).set 3 (.slice (some ⟨gg3,0,none⟩) 6 cc3)
  simp only [List.set_cons_zero,List.set_cons_succ] at pR4
  have pP4:=(((pP.off ⟨w.heap.size+1,0,none⟩ (.slice (some ⟨gg0,0,none⟩) 3 cc0) nPR).off ⟨w.heap.size+1,1,none⟩ (.slice (some ⟨gg1,0,none⟩) 4 cc1) nPR).off ⟨w.heap.size+1,2,none⟩ (.slice (some ⟨gg2,0,none⟩) 2 cc2) nPR).off ⟨w.heap.size+1,3,none⟩ (.slice (some ⟨gg3,0,none⟩) 6 cc3) nPR
  have b4:=(((bw.setCell (p:=⟨w.heap.size+1,0,none⟩) (by simp) (.slice (some ⟨gg0,0,none⟩) 3 cc0)).setCell (p:=⟨w.heap.size+1,1,none⟩) (by simp) (.slice (some ⟨gg1,0,none⟩) 4 cc1)).setCell (p:=⟨w.heap.size+1,2,none⟩) (by simp) (.slice (some ⟨gg2,0,none⟩) 2 cc2)).setCell (p:=⟨w.heap.size+1,3,none⟩) (by simp) (.slice (some ⟨gg3,0,none⟩) 6 cc3)
  have hO4:=(((hO.awayB9 pR (by decide) 0 (.slice (some ⟨gg0,0,none⟩) 3 cc0)).awayB9 (pR.set 0 (.slice (some ⟨gg0,0,none⟩) 3 cc0)) (by decide) 1 (.slice (some ⟨gg1,0,none⟩) 4 cc1)).awayB9 ((pR.set 0 (.slice (some ⟨gg0,0,none⟩) 3 cc0)).set 1 (.slice (some ⟨gg1,0,none⟩) 4 cc1)) (by decide) 2 (.slice (some ⟨gg2,0,none⟩) 2 cc2)).awayB9 (((pR.set 0 (.slice (some ⟨gg0,0,none⟩) 3 cc0)).set 1 (.slice (some ⟨gg1,0,none⟩) 4 cc1)).set 2 (.slice (some ⟨gg2,0,none⟩) 2 cc2)) (by decide) 3 (.slice (some ⟨gg3,0,none⟩) 6 cc3)
  refine tkz 17 (fun K hK=>?_)
  go_simp
  refine hK.out _ _ ?_ (fun hS2=>?_)
  ·exact ⟨by simpa using pP4.cell 0,by simpa using pP4.cell 1,by simpa using pP4.cell 2,by simpa using pP4.cell 3⟩
  clear hK
  try simp only [Act.put,tka,tkb,tkc]
  refine wpAnyH_done (by kernel_rfl) ?_ _
  clear hS0 hS2 r0 r1 r2 r3 f0 f1 f2 f3 pR pP bw hO pP4
  generalize (((W.setCell ⟨w.heap.size+1,0,none⟩ (.slice (some ⟨gg0,0,none⟩) 3 cc0)).setCell ⟨w.heap.size+1,1,none⟩ (.slice (some ⟨gg1,0,none⟩) 4 cc1)).setCell ⟨w.heap.size+1,2,none⟩ (.slice (some ⟨gg2,0,none⟩) 2 cc2)).setCell ⟨w.heap.size+1,3,none⟩ (.slice (some ⟨gg3,0,none⟩) 6 cc3)=w5 at *
  go_wp2_with fail
  refine bodyPost_ret (results_blk1 Tryz.results144 _ _ _ _ _ _ rfl pR4 Tryz.underlying123 rfl (by kernel_rfl)) rfl ?_
  exact ⟨VmOne.mk9 ((some ⟨gg0,0,none⟩,3,cc0),(some ⟨gg1,0,none⟩,4,cc1),(some ⟨gg2,0,none⟩,2,cc2),(some ⟨gg3,0,none⟩,6,cc3)) rfl hO4,b4⟩
 case step =>
  rintro n listed a W ⟨e0,e1,e2,e3,d0,d1,d2,d3,x0,x1,x2,x3,y0,y1,y2,y3,v0,v1,v2,v3,hn,rfl,rfl,⟨k0,k1,k2,k3⟩,⟨a01,a02,a03,a12,a13,a23⟩,pP,pR,bw⟩ i hi
  obtain ⟨hun,op,ho,hall⟩:=mem_ready.1 hi
  clear hi
  have hsz:=bw.size
  match i,hun,ho,hall with
  | 0,hun,ho,_ =>
   obtain rfl:e0=false:=by simpa using hun
   obtain ⟨rfl,_⟩:=k0.2.2 rfl
   have pP2:=blkOld (.cells #[] 3) pP
   have pR2:=blkOld (.cells #[] 3) pR
   have b2:=bw.alloc hsz (.cells #[] 3)
   have hn2:n=(cn1 true+cn1 false)+(cn1 e1+cn1 d1)+(cn1 e2+cn1 d2)+(cn1 e3+cn1 d3):=by simp only [cn1] at hn ⊢;simp at hn ⊢;omega
   refine wpOp_step (o:=⟨some 3,_,_,_,_,_⟩) rfl (fun K' hK'=>?_)
   go_simp
   refine hK' _ _ ⟨⟨by simpa using pP2.cell 0,by simpa using pP2.cell 1,by simpa using pP2.cell 2,by simpa using pP2.cell 3⟩,true,e1,e2,e3,false,d1,d2,d3,.slice (some ⟨W.heap.size,0,none⟩) 0 0,x1,x2,x3,y0,y1,y2,y3,.slice (some ⟨W.heap.size,0,none⟩) 0 0,v1,v2,v3,hn2,by simp,by simp [Act.put],⟨⟨(fun h=>by cases h),(fun _ _=>⟨rfl,own_empty W 3 1 w.heap.size hsz⟩),(fun h=>by cases h)⟩,k1.new _,k2.new _,k3.new _⟩,⟨(Ap.new k1 0 0).symm,(Ap.new k2 0 0).symm,(Ap.new k3 0 0).symm,a12,a13,a23⟩,pP2,pR2,b2⟩
  | 1,hun,_,_=>exact absurd hun (by simp)
  | 2,hun,_,_=>exact absurd hun (by simp)
  | 3,hun,ho,hall =>
   obtain rfl:d0=false:=by simpa using hun
   obtain rfl:e0=true:=by
    simp only [List.getElem?_toArray,List.getElem?_cons_zero,List.getElem?_cons_succ,Option.some.injEq] at ho
    subst ho
    have:=hall { on:=0,ground:=Ground.data } (by simp) rfl
    simpa using this
   obtain ⟨rfl,qo⟩:=k0.2.1 rfl rfl
   have hn2:n=(cn1 true+cn1 true)+(cn1 e1+cn1 d1)+(cn1 e2+cn1 d2)+(cn1 e3+cn1 d3):=by simp only [cn1] at hn ⊢;simp at hn ⊢;omega
   refine wpOp_step (o:=⟨some 6,_,_,_,_,_⟩) rfl (fun K' hK'=>?_)
   refine step_append_at rfl _ _ 40 rfl w.heap.size 3 i0 (.int .i64 0) 1 8 Tryz.underlying40 hi hz0 hz1 hz2 rfl (by decide) _ _ _ rfl qo ⟨b0,o0,none⟩ 3 c0 (m.1.map (Value.int .i64)) rfl (by simp [l0]) (ints_news (j0.below bw)) (one_i64s _) (by unfold maxLen;omega) (by omega) hsz ?_
   intro u1 U1 qn gr hat
   have qn2:U1.ownsRow w.heap.size 3 1 u1 (m.1).length (m.1.map (Value.int .i64)):=by simpa [l0] using qn
   have pP2:=pP.kept gr (own_ne_blk9 qo pP (by decide))
   have pR2:=pR.kept gr (own_ne_blk9 qo pR (by decide))
   have b2:=bw.grown gr hsz (fun x hx=>(qo.lt x hx).1)
   refine hK' _ _ ⟨⟨by simpa using pP2.cell 0,by simpa using pP2.cell 1,by simpa using pP2.cell 2,by simpa using pP2.cell 3⟩,true,e1,e2,e3,true,d1,d2,d3,x0,x1,x2,x3,u1,y1,y2,y3,u1,v1,v2,v3,hn2,by simp,by simp [Act.put],⟨⟨(fun _=>⟨rfl,rfl,qn2⟩),(fun h=>by cases h),(fun h=>by cases h)⟩,k1.kept gr a01.symm,k2.kept gr a02.symm,k3.kept gr a03.symm⟩,⟨(Ap.grown k1 a01.symm hat).symm,(Ap.grown k2 a02.symm hat).symm,(Ap.grown k3 a03.symm hat).symm,a12,a13,a23⟩,pP2,pR2,b2⟩
  | 4,hun,ho,_ =>
   obtain rfl:e1=false:=by simpa using hun
   obtain ⟨rfl,_⟩:=k1.2.2 rfl
   have pP2:=blkOld (.cells #[] 3) pP
   have pR2:=blkOld (.cells #[] 3) pR
   have b2:=bw.alloc hsz (.cells #[] 3)
   have hn2:n=(cn1 e0+cn1 d0)+(cn1 true+cn1 false)+(cn1 e2+cn1 d2)+(cn1 e3+cn1 d3):=by simp only [cn1] at hn ⊢;simp at hn ⊢;omega
   refine wpOp_step (o:=⟨some 7,_,_,_,_,_⟩) rfl (fun K' hK'=>?_)
   go_simp
   refine hK' _ _ ⟨⟨by simpa using pP2.cell 0,by simpa using pP2.cell 1,by simpa using pP2.cell 2,by simpa using pP2.cell 3⟩,e0,true,e2,e3,d0,false,d2,d3,x0,.slice (some ⟨W.heap.size,0,none⟩) 0 0,x2,x3,y0,y1,y2,y3,v0,.slice (some ⟨W.heap.size,0,none⟩) 0 0,v2,v3,hn2,by simp,by simp [Act.put],⟨k0.new _,⟨(fun h=>by cases h),(fun _ _=>⟨rfl,own_empty W 3 1 w.heap.size hsz⟩),(fun h=>by cases h)⟩,k2.new _,k3.new _⟩,⟨Ap.new k0 0 0,a02,a03,(Ap.new k2 0 0).symm,(Ap.new k3 0 0).symm,a23⟩,pP2,pR2,b2⟩
  | 5,hun,_,_=>exact absurd hun (by simp)
  | 6,hun,_,_=>exact absurd hun (by simp)
  | 7,hun,ho,hall =>
   obtain rfl:d1=false:=by simpa using hun
   obtain rfl:e1=true:=by
    simp only [List.getElem?_toArray,List.getElem?_cons_zero,List.getElem?_cons_succ,Option.some.injEq] at ho
    subst ho
    have:=hall { on:=4,ground:=Ground.data } (by simp) rfl
    simpa using this
   obtain ⟨rfl,qo⟩:=k1.2.1 rfl rfl
   have hn2:n=(cn1 e0+cn1 d0)+(cn1 true+cn1 true)+(cn1 e2+cn1 d2)+(cn1 e3+cn1 d3):=by simp only [cn1] at hn ⊢;simp at hn ⊢;omega
   refine wpOp_step (o:=⟨some 10,_,_,_,_,_⟩) rfl (fun K' hK'=>?_)
   refine step_append_at rfl _ _ 40 rfl w.heap.size 3 i0 (.int .i64 0) 1 8 Tryz.underlying40 hi hz0 hz1 hz2 rfl (by decide) _ _ _ rfl qo ⟨b1,o1,none⟩ 4 c1 (m.2.1.map (Value.int .i64)) rfl (by simp [l1]) (ints_news (j1.below bw)) (one_i64s _) (by unfold maxLen;omega) (by omega) hsz ?_
   intro u1 U1 qn gr hat
   have qn2:U1.ownsRow w.heap.size 3 1 u1 (m.2.1).length (m.2.1.map (Value.int .i64)):=by simpa [l1] using qn
   have pP2:=pP.kept gr (own_ne_blk9 qo pP (by decide))
   have pR2:=pR.kept gr (own_ne_blk9 qo pR (by decide))
   have b2:=bw.grown gr hsz (fun x hx=>(qo.lt x hx).1)
   refine hK' _ _ ⟨⟨by simpa using pP2.cell 0,by simpa using pP2.cell 1,by simpa using pP2.cell 2,by simpa using pP2.cell 3⟩,e0,true,e2,e3,d0,true,d2,d3,x0,x1,x2,x3,y0,u1,y2,y3,v0,u1,v2,v3,hn2,by simp,by simp [Act.put],⟨k0.kept gr a01,⟨(fun _=>⟨rfl,rfl,qn2⟩),(fun h=>by cases h),(fun h=>by cases h)⟩,k2.kept gr a12.symm,k3.kept gr a13.symm⟩,⟨Ap.grown k0 a01 hat,a02,a03,(Ap.grown k2 a12.symm hat).symm,(Ap.grown k3 a13.symm hat).symm,a23⟩,pP2,pR2,b2⟩
  | 8,hun,ho,_ =>
   obtain rfl:e2=false:=by simpa using hun
   obtain ⟨rfl,_⟩:=k2.2.2 rfl
   have pP2:=blkOld (.cells #[] 3) pP
   have pR2:=blkOld (.cells #[] 3) pR
   have b2:=bw.alloc hsz (.cells #[] 3)
   have hn2:n=(cn1 e0+cn1 d0)+(cn1 e1+cn1 d1)+(cn1 true+cn1 false)+(cn1 e3+cn1 d3):=by simp only [cn1] at hn ⊢;simp at hn ⊢;omega
   refine wpOp_step (o:=⟨some 11,_,_,_,_,_⟩) rfl (fun K' hK'=>?_)
   go_simp
   refine hK' _ _ ⟨⟨by simpa using pP2.cell 0,by simpa using pP2.cell 1,by simpa using pP2.cell 2,by simpa using pP2.cell 3⟩,e0,e1,true,e3,d0,d1,false,d3,x0,x1,.slice (some ⟨W.heap.size,0,none⟩) 0 0,x3,y0,y1,y2,y3,v0,v1,.slice (some ⟨W.heap.size,0,none⟩) 0 0,v3,hn2,by simp,by simp [Act.put],⟨k0.new _,k1.new _,⟨(fun h=>by cases h),(fun _ _=>⟨rfl,own_empty W 3 1 w.heap.size hsz⟩),(fun h=>by cases h)⟩,k3.new _⟩,⟨a01,Ap.new k0 0 0,a03,Ap.new k1 0 0,a13,(Ap.new k3 0 0).symm⟩,pP2,pR2,b2⟩
  | 9,hun,_,_=>exact absurd hun (by simp)
  | 10,hun,_,_=>exact absurd hun (by simp)
  | 11,hun,ho,hall =>
   obtain rfl:d2=false:=by simpa using hun
   obtain rfl:e2=true:=by
    simp only [List.getElem?_toArray,List.getElem?_cons_zero,List.getElem?_cons_succ,Option.some.injEq] at ho
    subst ho
    have:=hall { on:=8,ground:=Ground.data } (by simp) rfl
    simpa using this
   obtain ⟨rfl,qo⟩:=k2.2.1 rfl rfl
   have hn2:n=(cn1 e0+cn1 d0)+(cn1 e1+cn1 d1)+(cn1 true+cn1 true)+(cn1 e3+cn1 d3):=by simp only [cn1] at hn ⊢;simp at hn ⊢;omega
   refine wpOp_step (o:=⟨some 14,_,_,_,_,_⟩) rfl (fun K' hK'=>?_)
   refine step_append_at rfl _ _ 40 rfl w.heap.size 3 i0 (.int .i64 0) 1 8 Tryz.underlying40 hi hz0 hz1 hz2 rfl (by decide) _ _ _ rfl qo ⟨b2,o2,none⟩ 2 c2 (m.2.2.1.map (Value.int .i64)) rfl (by simp [l2]) (ints_news (j2.below bw)) (one_i64s _) (by unfold maxLen;omega) (by omega) hsz ?_
   intro u1 U1 qn gr hat
   have qn2:U1.ownsRow w.heap.size 3 1 u1 (m.2.2.1).length (m.2.2.1.map (Value.int .i64)):=by simpa [l2] using qn
   have pP2:=pP.kept gr (own_ne_blk9 qo pP (by decide))
   have pR2:=pR.kept gr (own_ne_blk9 qo pR (by decide))
   have b2:=bw.grown gr hsz (fun x hx=>(qo.lt x hx).1)
   refine hK' _ _ ⟨⟨by simpa using pP2.cell 0,by simpa using pP2.cell 1,by simpa using pP2.cell 2,by simpa using pP2.cell 3⟩,e0,e1,true,e3,d0,d1,true,d3,x0,x1,x2,x3,y0,y1,u1,y3,v0,v1,u1,v3,hn2,by simp,by simp [Act.put],⟨k0.kept gr a02,k1.kept gr a12,⟨(fun _=>⟨rfl,rfl,qn2⟩),(fun h=>by cases h),(fun h=>by cases h)⟩,k3.kept gr a23.symm⟩,⟨a01,Ap.grown k0 a02 hat,a03,Ap.grown k1 a12 hat,a13,(Ap.grown k3 a23.symm hat).symm⟩,pP2,pR2,b2⟩
  | 12,hun,ho,_ =>
   obtain rfl:e3=false:=by simpa using hun
   obtain ⟨rfl,_⟩:=k3.2.2 rfl
   have pP2:=blkOld (.cells #[] 3) pP
   have pR2:=blkOld (.cells #[] 3) pR
   have b2:=bw.alloc hsz (.cells #[] 3)
   have hn2:n=(cn1 e0+cn1 d0)+(cn1 e1+cn1 d1)+(cn1 e2+cn1 d2)+(cn1 true+cn1 false):=by simp only [cn1] at hn ⊢;simp at hn ⊢;omega
   refine wpOp_step (o:=⟨some 15,_,_,_,_,_⟩) rfl (fun K' hK'=>?_)
   go_simp
   refine hK' _ _ ⟨⟨by simpa using pP2.cell 0,by simpa using pP2.cell 1,by simpa using pP2.cell 2,by simpa using pP2.cell 3⟩,e0,e1,e2,true,d0,d1,d2,false,x0,x1,x2,.slice (some ⟨W.heap.size,0,none⟩) 0 0,y0,y1,y2,y3,v0,v1,v2,.slice (some ⟨W.heap.size,0,none⟩) 0 0,hn2,by simp,by simp [Act.put],⟨k0.new _,k1.new _,k2.new _,⟨(fun h=>by cases h),(fun _ _=>⟨rfl,own_empty W 3 1 w.heap.size hsz⟩),(fun h=>by cases h)⟩⟩,⟨a01,a02,Ap.new k0 0 0,a12,Ap.new k1 0 0,Ap.new k2 0 0⟩,pP2,pR2,b2⟩
  | 13,hun,_,_=>exact absurd hun (by simp)
  | 14,hun,_,_=>exact absurd hun (by simp)
  | 15,hun,ho,hall =>
   obtain rfl:d3=false:=by simpa using hun
   obtain rfl:e3=true:=by
    simp only [List.getElem?_toArray,List.getElem?_cons_zero,List.getElem?_cons_succ,Option.some.injEq] at ho
    subst ho
    have:=hall { on:=12,ground:=Ground.data } (by simp) rfl
    simpa using this
   obtain ⟨rfl,qo⟩:=k3.2.1 rfl rfl
   have hn2:n=(cn1 e0+cn1 d0)+(cn1 e1+cn1 d1)+(cn1 e2+cn1 d2)+(cn1 true+cn1 true):=by simp only [cn1] at hn ⊢;simp at hn ⊢;omega
   refine wpOp_step (o:=⟨some 18,_,_,_,_,_⟩) rfl (fun K' hK'=>?_)
   refine step_append_at rfl _ _ 40 rfl w.heap.size 3 i0 (.int .i64 0) 1 8 Tryz.underlying40 hi hz0 hz1 hz2 rfl (by decide) _ _ _ rfl qo ⟨b3,o3,none⟩ 6 c3 (m.2.2.2.map (Value.int .i64)) rfl (by simp [l3]) (ints_news (j3.below bw)) (one_i64s _) (by unfold maxLen;omega) (by omega) hsz ?_
   intro u1 U1 qn gr hat
   have qn2:U1.ownsRow w.heap.size 3 1 u1 (m.2.2.2).length (m.2.2.2.map (Value.int .i64)):=by simpa [l3] using qn
   have pP2:=pP.kept gr (own_ne_blk9 qo pP (by decide))
   have pR2:=pR.kept gr (own_ne_blk9 qo pR (by decide))
   have b2:=bw.grown gr hsz (fun x hx=>(qo.lt x hx).1)
   refine hK' _ _ ⟨⟨by simpa using pP2.cell 0,by simpa using pP2.cell 1,by simpa using pP2.cell 2,by simpa using pP2.cell 3⟩,e0,e1,e2,true,d0,d1,d2,true,x0,x1,x2,x3,y0,y1,y2,u1,v0,v1,v2,u1,hn2,by simp,by simp [Act.put],⟨k0.kept gr a03,k1.kept gr a13,k2.kept gr a23,⟨(fun _=>⟨rfl,rfl,qn2⟩),(fun h=>by cases h),(fun h=>by cases h)⟩⟩,⟨a01,a02,Ap.grown k0 a03 hat,a12,Ap.grown k1 a13 hat,Ap.grown k2 a23 hat⟩,pP2,pR2,b2⟩
  | 16,_,ho,hall =>
   exfalso
   simp only [List.getElem?_toArray,List.getElem?_cons_zero,List.getElem?_cons_succ,Option.some.injEq] at ho
   subst ho
   have h0:=hall { on:=3,ground:=Ground.data } (by simp) rfl
   have h1:=hall { on:=7,ground:=Ground.data } (by simp) rfl
   have h2:=hall { on:=11,ground:=Ground.data } (by simp) rfl
   have h3:=hall { on:=15,ground:=Ground.data } (by simp) rfl
   simp at h0 h1 h2 h3
   subst h0 h1 h2 h3
   obtain ⟨rfl,_⟩:=k0.1 rfl
   obtain ⟨rfl,_⟩:=k1.1 rfl
   obtain ⟨rfl,_⟩:=k2.1 rfl
   obtain ⟨rfl,_⟩:=k3.1 rfl
   simp [cn1] at hn
  | 17,_,ho,hall =>
   exfalso
   simp only [List.getElem?_toArray,List.getElem?_cons_zero,List.getElem?_cons_succ,Option.some.injEq] at ho
   subst ho
   have h0:=hall { on:=16,ground:=Ground.data } (by simp) rfl
   simp at h0
  | (k+18),_,ho,_=>exact absurd ho (by simp)


theorem ints_at9 {w:World} {b off n c:Nat} {zs:List Int} (h:Ints .i64 w (some ⟨b,off,none⟩) n c zs) {t:Nat} (ht:t<n):w.cell? ⟨b,off+t,none⟩=some (.int .i64 (zs.getD t 0)):=by
 rcases h.2.2.2 with h0 | ⟨b',off',ha,_,hc⟩
 ·omega
 ·cases ha
  exact hc t ht
def RowsAt (w:World) (a:Option Addr) (cs:Sl × Sl × Sl) (rows:List (List I3)):Prop:=
 ∃ b off,a=some ⟨b,off,none⟩∧b<w.heap.size∧∀ k,k<3→w.cell? ⟨b,off+k,none⟩=some (.slice (slK cs k).1 (slK cs k).2.1 (slK cs k).2.2)∧Instrs w (slK cs k).1 (slK cs k).2.1 (slK cs k).2.2 (codeM rows k)
theorem RowsAt.below {w w':World} {a:Option Addr} {cs:Sl × Sl × Sl} {rows:List (List I3)} (h:RowsAt w a cs rows) (hb:Below w.heap.size w w'):RowsAt w' a cs rows:=by
 obtain ⟨b,off,ha,hlt,hk⟩:=h
 exact ⟨b,off,ha,Nat.lt_of_lt_of_le hlt hb.size,fun k h3=>⟨cells_kept hb _ _ (hk k h3).1,(hk k h3).2.below hb⟩⟩
theorem Codes.rowsAt {w:World} {a:Option Addr} {len cap:Nat} {rows:List (List I3)} (hC:Codes w a len cap rows) (hp:progOk rows=true):len=3∧∃ cs,RowsAt w a cs rows:=by
 obtain ⟨h3,_⟩:=progOk_parts hp
 obtain ⟨hl,hlc,hcm,hcase⟩:=hC
 obtain rfl:len=3:=hl.symm.trans h3
 rcases hcase with h9 | ⟨b,off,ha,hlt,hrow⟩
 ·exact absurd h9 (by decide)
 ·obtain ⟨a0,n0,c0,r0,i0⟩:=hrow 0 (by decide)
  obtain ⟨a1,n1,c1,r1,i1⟩:=hrow 1 (by decide)
  obtain ⟨a2,n2,c2,r2,i2⟩:=hrow 2 (by decide)
  refine ⟨rfl,((a0,n0,c0),(a1,n1,c1),(a2,n2,c2)),b,off,ha,hlt,fun k hk=>?_⟩
  match k,hk with
  | 0,_=>exact ⟨r0,i0⟩
  | 1,_=>exact ⟨r1,i1⟩
  | 2,_=>exact ⟨r2,i2⟩


theorem enabM_yes {rows:List (List I3)} {m:V4} {k:Nat} (h:canM rows m k=true):enabM rows m (k+1)=enabM rows m k++[(k:Int)]:=by simp [enabM,h]
theorem enabM_no {rows:List (List I3)} {m:V4} {k:Nat} (h:canM rows m k=false):enabM rows m (k+1)=enabM rows m k:=by simp [enabM,h]
theorem enabM_len (rows:List (List I3)) (m:V4):∀ k,(enabM rows m k).length≤k
 | 0=>by simp [enabM]
 | k+1=>by
  have:=enabM_len rows m k
  unfold enabM
  split
  ·simp;omega
  ·omega


theorem l03Done_raw (b off len cap b0 o0 c0:Nat) (a1:Option Addr) (n1 c1:Nat) (a2:Option Addr) (n2 c2:Nat) (a3:Option Addr) (n3 c3 k:Nat) (ca:Option Addr) (cn cc:Nat) (pc:Int) (w:World) (hk:k<3) (hlen:len=3)
  (r0:w.cell? ⟨b,off+k,none⟩=some (.slice ca cn cc)) (r1:w.cell? ⟨b0,o0+k,none⟩=some (.int .i64 pc)) :
  Calls Tryz.prog 162 #[.agg #[.slice (some ⟨b,off,none⟩) len cap],.agg #[.slice (some ⟨b0,o0,none⟩) 3 c0,.slice a1 n1 c1,.slice a2 n2 c2,.slice a3 n3 c3],.int .i64 k] w fun e w'=>e=.returned (.bool (decide ((cn:Int)≤pc)))∧Below w.heap.size w w':=by
 obtain ⟨x,hx⟩:∃ x,x=decide ((cn:Int)≤pc):=⟨_,rfl⟩
 have hd:decide ((cn:Int)≤pc)=x:=hx.symm
 rw [← hx]
 clear hx
 have hk3:(k:Int)<3:=by omega
 have hkl:(k:Int)<(len:Int):=by omega
 clear hlen
 have bw:Below w.heap.size w ((w.alloc (.cells #[.slice (some ⟨b,off,none⟩) len cap] 69)).alloc (.cells #[.slice (some ⟨b0,o0,none⟩) 3 c0,.slice a1 n1 c1,.slice a2 n2 c2,.slice a3 n3 c3] 123)):=by go_grown
 have g0:((w.alloc (.cells #[.slice (some ⟨b,off,none⟩) len cap] 69)).alloc (.cells #[.slice (some ⟨b0,o0,none⟩) 3 c0,.slice a1 n1 c1,.slice a2 n2 c2,.slice a3 n3 c3] 123)).cell? ⟨w.heap.size,0,none⟩=some (.slice (some ⟨b,off,none⟩) len cap):=by simp [go_sem]
 have g1:((w.alloc (.cells #[.slice (some ⟨b,off,none⟩) len cap] 69)).alloc (.cells #[.slice (some ⟨b0,o0,none⟩) 3 c0,.slice a1 n1 c1,.slice a2 n2 c2,.slice a3 n3 c3] 123)).cell? ⟨w.heap.size+1,0,none⟩=some (.slice (some ⟨b0,o0,none⟩) 3 c0):=by simp [go_sem]
 replace r0:=cells_kept bw _ _ r0
 replace r1:=cells_kept bw _ _ r1
 go_enter Tryz.func162,Tryz.ntmps162
 go_wp2_with fail
 generalize ((w.alloc (.cells #[.slice (some ⟨b,off,none⟩) len cap] 69)).alloc (.cells #[.slice (some ⟨b0,o0,none⟩) 3 c0,.slice a1 n1 c1,.slice a2 n2 c2,.slice a3 n3 c3] 123))=W at *
 go_quiet (fail)
 have bz:Below w.heap.size w (W.drewN nq):=bel_trans bw (below_dN _)
 go_wp2
 go_ret
 exact ⟨rfl,bz⟩

theorem l03Done_is {w:World} {a:Option Addr} {len cap:Nat} {cs:Sl × Sl × Sl} {rows:List (List I3)} {s:S4} {m:V4} (hl:len=3) (hR:RowsAt w a cs rows) (h:Vmem w s m) (hs:shapeOk m=true) {k:Nat} (hk:k<3) :
  Calls Tryz.prog 162 #[.agg #[.slice a len cap],s.val,.int .i64 k] w fun e w'=>e=.returned (.bool (doneM rows m k))∧Below w.heap.size w w':=by
 obtain ⟨b,off,rfl,_,hrow⟩:=hR
 obtain ⟨r0,hI⟩:=hrow k hk
 obtain ⟨⟨j0,_⟩,_⟩:=h
 obtain ⟨l0,_⟩:=shape_parts hs
 obtain ⟨⟨a0,n0,c0⟩,⟨a1,n1,c1⟩,⟨a2,n2,c2⟩,⟨a3,n3,c3⟩⟩:=s
 simp only at j0
 obtain ⟨rfl,b0,o0,rfl⟩:=some_of_ints j0 l0 (by decide)
 have r1:=ints_at9 j0 (t:=k) hk
 unfold doneM
 rw [hI.1]
 exact l03Done_raw b off len cap b0 o0 c0 a1 n1 c1 a2 n2 c2 a3 n3 c3 k _ _ _ _ w hk hl r0 r1

theorem l03Can_free (b off len cap b0 o0 c0:Nat) (a1:Option Addr) (n1 c1:Nat) (a2:Option Addr) (n2 c2:Nat) (a3:Option Addr) (n3 c3 k:Nat) (cb co cn cc p:Nat) (x0 x1 x2:Int) (w:World) (hk:k<3) (hlen:len=3) (hp:p<cn)
  (e0:w.cell? ⟨b,off+k,none⟩=some (.slice (some ⟨cb,co,none⟩) cn cc)) (e1:w.cell? ⟨b0,o0+k,none⟩=some (.int .i64 p)) (q0:w.cell? ⟨cb,co+p*3,none⟩=some (.int .i64 x0)) (q1:w.cell? ⟨cb,co+p*3+1,none⟩=some (.int .i64 x1)) (q2:w.cell? ⟨cb,co+p*3+2,none⟩=some (.int .i64 x2)) (hx:x0≠5) :
  Calls Tryz.prog 143 #[.agg #[.slice (some ⟨b,off,none⟩) len cap],.agg #[.slice (some ⟨b0,o0,none⟩) 3 c0,.slice a1 n1 c1,.slice a2 n2 c2,.slice a3 n3 c3],.int .i64 k] w fun e w'=>e=.returned (.bool true)∧Below w.heap.size w w':=by
 have kD:=fun w r0 r1=>l03Done_raw b off len cap b0 o0 c0 a1 n1 c1 a2 n2 c2 a3 n3 c3 k (some ⟨cb,co,none⟩) cn cc p w hk hlen r0 r1
 rw [decide_eq_false (by omega)] at kD
 have hk3:(k:Int)<3:=by omega
 have hkl:(k:Int)<(len:Int):=by omega
 have hpn:(p:Int)<(cn:Int):=by omega
 clear hlen
 have bw:Below w.heap.size w ((w.alloc (.cells #[.slice (some ⟨b,off,none⟩) len cap] 69)).alloc (.cells #[.slice (some ⟨b0,o0,none⟩) 3 c0,.slice a1 n1 c1,.slice a2 n2 c2,.slice a3 n3 c3] 123)):=by go_grown
 have g0:((w.alloc (.cells #[.slice (some ⟨b,off,none⟩) len cap] 69)).alloc (.cells #[.slice (some ⟨b0,o0,none⟩) 3 c0,.slice a1 n1 c1,.slice a2 n2 c2,.slice a3 n3 c3] 123)).cell? ⟨w.heap.size,0,none⟩=some (.slice (some ⟨b,off,none⟩) len cap):=by simp [go_sem]
 have g1:((w.alloc (.cells #[.slice (some ⟨b,off,none⟩) len cap] 69)).alloc (.cells #[.slice (some ⟨b0,o0,none⟩) 3 c0,.slice a1 n1 c1,.slice a2 n2 c2,.slice a3 n3 c3] 123)).cell? ⟨w.heap.size+1,0,none⟩=some (.slice (some ⟨b0,o0,none⟩) 3 c0):=by simp [go_sem]
 have g2:((w.alloc (.cells #[.slice (some ⟨b,off,none⟩) len cap] 69)).alloc (.cells #[.slice (some ⟨b0,o0,none⟩) 3 c0,.slice a1 n1 c1,.slice a2 n2 c2,.slice a3 n3 c3] 123)).cell? ⟨w.heap.size+1,2,none⟩=some (.slice a2 n2 c2):=by simp [go_sem]
 replace e0:=cells_kept bw _ _ e0
 replace e1:=cells_kept bw _ _ e1
 replace q0:=cells_kept bw _ _ q0
 replace q1:=cells_kept bw _ _ q1
 replace q2:=cells_kept bw _ _ q2
 go_enter Tryz.func143,Tryz.ntmps143
 go_wp2_with fail
 refine (kD _ e0 e1).mono ?_
 rintro e w1 ⟨rfl,hb⟩
 replace bw:=bel_trans bw hb
 replace g0:=cells_kept hb _ _ g0
 replace g1:=cells_kept hb _ _ g1
 replace g2:=cells_kept hb _ _ g2
 replace e0:=cells_kept hb _ _ e0
 replace e1:=cells_kept hb _ _ e1
 replace q0:=cells_kept hb _ _ q0
 replace q1:=cells_kept hb _ _ q1
 replace q2:=cells_kept hb _ _ q2
 clear hb kD
 go_wp2_with fail
 refine wp_region_held_drew (S:=(fun w'=>w'.cell? ⟨w.heap.size,0,none⟩=some (.slice (some ⟨b,off,none⟩) len cap)∧w'.cell? ⟨w.heap.size+1,0,none⟩=some (.slice (some ⟨b0,o0,none⟩) 3 c0)∧w'.cell? ⟨b,off+k,none⟩=some (.slice (some ⟨cb,co,none⟩) cn cc)∧w'.cell? ⟨b0,o0+k,none⟩=some (.int .i64 p)∧w'.cell? ⟨cb,co+p*3,none⟩=some (.int .i64 x0)∧w'.cell? ⟨cb,co+p*3+1,none⟩=some (.int .i64 x1)∧w'.cell? ⟨cb,co+p*3+2,none⟩=some (.int .i64 x2))) (by kernel_rfl) ⟨g0,g1,e0,e1,q0,q1,q2⟩ (fun hS0=>?_)
 refine tkm 0 12 (.pointer (some ⟨w.heap.size,0,none⟩)) ?_
 refine tkm 1 13 (.slice (some ⟨b,off,none⟩) len cap) ?_
 refine tkm 2 14 (.int .i64 k) ?_
 refine tkm 3 15 (.pointer (some ⟨b,off+k,none⟩)) ?_
 refine tkm 4 16 (.slice (some ⟨cb,co,none⟩) cn cc) ?_
 refine tkm 5 17 (.pointer (some ⟨w.heap.size+1,0,none⟩)) ?_
 refine tkm 6 18 (.slice (some ⟨b0,o0,none⟩) 3 c0) ?_
 refine tkm 7 19 (.int .i64 k) ?_
 refine tkm 8 20 (.pointer (some ⟨b0,o0+k,none⟩)) ?_
 refine tkm 9 21 (.int .i64 p) ?_
 refine tkm 10 22 (.pointer (some ⟨cb,co+p*3,none⟩)) ?_
 refine tkm 11 23 (.agg #[.int .i64 x0,.int .i64 x1,.int .i64 x2]) ?_
 refine tkr 12 7 (fun K hK=>?_)
 have hal:Below w1.drew.heap.size w1.drew (w1.drew.alloc (.cells #[.int .i64 0,.int .i64 0,.int .i64 0] 109)):=by go_grown
 go_simp
 refine hK.out _ _ ?_ (fun hS1=>?_)
 ·exact ⟨cells_kept hal _ _ hS0.1,cells_kept hal _ _ hS0.2.1,cells_kept hal _ _ hS0.2.2.1,cells_kept hal _ _ hS0.2.2.2.1,cells_kept hal _ _ hS0.2.2.2.2.1,cells_kept hal _ _ hS0.2.2.2.2.2.1,cells_kept hal _ _ hS0.2.2.2.2.2.2⟩
 clear hK
 try simp only [Act.put,tka,tkb,tkc]
 refine tkz 13 (fun K hK=>?_)
 have hal2:Below w1.drew.heap.size w1.drew (w1.drew.alloc (.cells #[.int .i64 x0,.int .i64 x1,.int .i64 x2] 109)):=by go_grown
 go_simp
 refine hK.out _ _ ?_ (fun hS2=>?_)
 ·exact ⟨cells_kept hal2 _ _ hS0.1,cells_kept hal2 _ _ hS0.2.1,cells_kept hal2 _ _ hS0.2.2.1,cells_kept hal2 _ _ hS0.2.2.2.1,cells_kept hal2 _ _ hS0.2.2.2.2.1,cells_kept hal2 _ _ hS0.2.2.2.2.2.1,cells_kept hal2 _ _ hS0.2.2.2.2.2.2⟩
 clear hK
 try simp only [Act.put,tka,tkb,tkc]
 refine wpAnyH_done (by kernel_rfl) ?_ _
 have bx:Below w1.heap.size w1 (w1.alloc (.cells #[.int .i64 x0,.int .i64 x1,.int .i64 x2] 109)).drew:=by go_grown
 have pX:Blk (w1.alloc (.cells #[.int .i64 x0,.int .i64 x1,.int .i64 x2] 109)).drew w1.heap.size 109 [.int .i64 x0,.int .i64 x1,.int .i64 x2]:=Blk.new w1 109 [.int .i64 x0,.int .i64 x1,.int .i64 x2]
 replace bw:=bel_trans bw bx
 replace g2:=cells_kept bx _ _ g2
 have u0:=pX.cell 0
 have u1:=pX.cell 1
 simp only [List.getElem?_cons_zero,List.getElem?_cons_succ] at u0 u1
 clear bx hal hal2 hS0 hS1 hS2 e0 e1 q0 q1 q2 g0 g1 pX
 have hx5:(x0 != 5)=true:=by simp [hx]
 go_wp2_with fail
 generalize (w1.alloc (.cells #[.int .i64 x0,.int .i64 x1,.int .i64 x2] 109)).drew=W3 at *
 go_wp2
 go_ret
 exact ⟨rfl,bw⟩

theorem l03Can_lock (b off len cap b0 o0 c0:Nat) (a1:Option Addr) (n1 c1:Nat) (c2:Nat) (a3:Option Addr) (n3 c3 k:Nat) (cb co cn cc p:Nat) (x2:Int) (b2 o2 q:Nat) (hv:Int) (w:World) (hk:k<3) (hlen:len=3) (hp:p<cn)
  (e0:w.cell? ⟨b,off+k,none⟩=some (.slice (some ⟨cb,co,none⟩) cn cc)) (e1:w.cell? ⟨b0,o0+k,none⟩=some (.int .i64 p)) (q0:w.cell? ⟨cb,co+p*3,none⟩=some (.int .i64 5)) (q1:w.cell? ⟨cb,co+p*3+1,none⟩=some (.int .i64 q)) (q2:w.cell? ⟨cb,co+p*3+2,none⟩=some (.int .i64 x2)) (hq:q<2) (h6:w.cell? ⟨b2,o2+q,none⟩=some (.int .i64 hv)) (z:Bool) (hz:z=decide (hv=0)) :
  Calls Tryz.prog 143 #[.agg #[.slice (some ⟨b,off,none⟩) len cap],.agg #[.slice (some ⟨b0,o0,none⟩) 3 c0,.slice a1 n1 c1,.slice (some ⟨b2,o2,none⟩) 2 c2,.slice a3 n3 c3],.int .i64 k] w fun e w'=>e=.returned (.bool z)∧Below w.heap.size w w':=by
 have kD:=fun w r0 r1=>l03Done_raw b off len cap b0 o0 c0 a1 n1 c1 (some ⟨b2,o2,none⟩) 2 c2 a3 n3 c3 k (some ⟨cb,co,none⟩) cn cc p w hk hlen r0 r1
 rw [decide_eq_false (by omega)] at kD
 have hk3:(k:Int)<3:=by omega
 have hkl:(k:Int)<(len:Int):=by omega
 have hpn:(p:Int)<(cn:Int):=by omega
 clear hlen
 have bw:Below w.heap.size w ((w.alloc (.cells #[.slice (some ⟨b,off,none⟩) len cap] 69)).alloc (.cells #[.slice (some ⟨b0,o0,none⟩) 3 c0,.slice a1 n1 c1,.slice (some ⟨b2,o2,none⟩) 2 c2,.slice a3 n3 c3] 123)):=by go_grown
 have g0:((w.alloc (.cells #[.slice (some ⟨b,off,none⟩) len cap] 69)).alloc (.cells #[.slice (some ⟨b0,o0,none⟩) 3 c0,.slice a1 n1 c1,.slice (some ⟨b2,o2,none⟩) 2 c2,.slice a3 n3 c3] 123)).cell? ⟨w.heap.size,0,none⟩=some (.slice (some ⟨b,off,none⟩) len cap):=by simp [go_sem]
 have g1:((w.alloc (.cells #[.slice (some ⟨b,off,none⟩) len cap] 69)).alloc (.cells #[.slice (some ⟨b0,o0,none⟩) 3 c0,.slice a1 n1 c1,.slice (some ⟨b2,o2,none⟩) 2 c2,.slice a3 n3 c3] 123)).cell? ⟨w.heap.size+1,0,none⟩=some (.slice (some ⟨b0,o0,none⟩) 3 c0):=by simp [go_sem]
 have g2:((w.alloc (.cells #[.slice (some ⟨b,off,none⟩) len cap] 69)).alloc (.cells #[.slice (some ⟨b0,o0,none⟩) 3 c0,.slice a1 n1 c1,.slice (some ⟨b2,o2,none⟩) 2 c2,.slice a3 n3 c3] 123)).cell? ⟨w.heap.size+1,2,none⟩=some (.slice (some ⟨b2,o2,none⟩) 2 c2):=by simp [go_sem]
 replace e0:=cells_kept bw _ _ e0
 replace e1:=cells_kept bw _ _ e1
 replace q0:=cells_kept bw _ _ q0
 replace q1:=cells_kept bw _ _ q1
 replace q2:=cells_kept bw _ _ q2
 replace h6:=cells_kept bw _ _ h6
 go_enter Tryz.func143,Tryz.ntmps143
 go_wp2_with fail
 refine (kD _ e0 e1).mono ?_
 rintro e w1 ⟨rfl,hb⟩
 replace bw:=bel_trans bw hb
 replace g0:=cells_kept hb _ _ g0
 replace g1:=cells_kept hb _ _ g1
 replace g2:=cells_kept hb _ _ g2
 replace e0:=cells_kept hb _ _ e0
 replace e1:=cells_kept hb _ _ e1
 replace q0:=cells_kept hb _ _ q0
 replace q1:=cells_kept hb _ _ q1
 replace q2:=cells_kept hb _ _ q2
 replace h6:=cells_kept hb _ _ h6
 clear hb kD
 go_wp2_with fail
 refine wp_region_held_drew (S:=(fun w'=>w'.cell? ⟨w.heap.size,0,none⟩=some (.slice (some ⟨b,off,none⟩) len cap)∧w'.cell? ⟨w.heap.size+1,0,none⟩=some (.slice (some ⟨b0,o0,none⟩) 3 c0)∧w'.cell? ⟨b,off+k,none⟩=some (.slice (some ⟨cb,co,none⟩) cn cc)∧w'.cell? ⟨b0,o0+k,none⟩=some (.int .i64 p)∧w'.cell? ⟨cb,co+p*3,none⟩=some (.int .i64 5)∧w'.cell? ⟨cb,co+p*3+1,none⟩=some (.int .i64 q)∧w'.cell? ⟨cb,co+p*3+2,none⟩=some (.int .i64 x2))) (by kernel_rfl) ⟨g0,g1,e0,e1,q0,q1,q2⟩ (fun hS0=>?_)
 refine tkm 0 12 (.pointer (some ⟨w.heap.size,0,none⟩)) ?_
 refine tkm 1 13 (.slice (some ⟨b,off,none⟩) len cap) ?_
 refine tkm 2 14 (.int .i64 k) ?_
 refine tkm 3 15 (.pointer (some ⟨b,off+k,none⟩)) ?_
 refine tkm 4 16 (.slice (some ⟨cb,co,none⟩) cn cc) ?_
 refine tkm 5 17 (.pointer (some ⟨w.heap.size+1,0,none⟩)) ?_
 refine tkm 6 18 (.slice (some ⟨b0,o0,none⟩) 3 c0) ?_
 refine tkm 7 19 (.int .i64 k) ?_
 refine tkm 8 20 (.pointer (some ⟨b0,o0+k,none⟩)) ?_
 refine tkm 9 21 (.int .i64 p) ?_
 refine tkm 10 22 (.pointer (some ⟨cb,co+p*3,none⟩)) ?_
 refine tkm 11 23 (.agg #[.int .i64 5,.int .i64 q,.int .i64 x2]) ?_
 refine tkr 12 7 (fun K hK=>?_)
 have hal:Below w1.drew.heap.size w1.drew (w1.drew.alloc (.cells #[.int .i64 0,.int .i64 0,.int .i64 0] 109)):=by go_grown
 go_simp
 refine hK.out _ _ ?_ (fun hS1=>?_)
 ·exact ⟨cells_kept hal _ _ hS0.1,cells_kept hal _ _ hS0.2.1,cells_kept hal _ _ hS0.2.2.1,cells_kept hal _ _ hS0.2.2.2.1,cells_kept hal _ _ hS0.2.2.2.2.1,cells_kept hal _ _ hS0.2.2.2.2.2.1,cells_kept hal _ _ hS0.2.2.2.2.2.2⟩
 clear hK
 try simp only [Act.put,tka,tkb,tkc]
 refine tkz 13 (fun K hK=>?_)
 have hal2:Below w1.drew.heap.size w1.drew (w1.drew.alloc (.cells #[.int .i64 5,.int .i64 q,.int .i64 x2] 109)):=by go_grown
 go_simp
 refine hK.out _ _ ?_ (fun hS2=>?_)
 ·exact ⟨cells_kept hal2 _ _ hS0.1,cells_kept hal2 _ _ hS0.2.1,cells_kept hal2 _ _ hS0.2.2.1,cells_kept hal2 _ _ hS0.2.2.2.1,cells_kept hal2 _ _ hS0.2.2.2.2.1,cells_kept hal2 _ _ hS0.2.2.2.2.2.1,cells_kept hal2 _ _ hS0.2.2.2.2.2.2⟩
 clear hK
 try simp only [Act.put,tka,tkb,tkc]
 refine wpAnyH_done (by kernel_rfl) ?_ _
 have bx:Below w1.heap.size w1 (w1.alloc (.cells #[.int .i64 5,.int .i64 q,.int .i64 x2] 109)).drew:=by go_grown
 have pX:Blk (w1.alloc (.cells #[.int .i64 5,.int .i64 q,.int .i64 x2] 109)).drew w1.heap.size 109 [.int .i64 5,.int .i64 q,.int .i64 x2]:=Blk.new w1 109 [.int .i64 5,.int .i64 q,.int .i64 x2]
 replace bw:=bel_trans bw bx
 replace g2:=cells_kept bx _ _ g2
 replace h6:=cells_kept bx _ _ h6
 have u0:=pX.cell 0
 have u1:=pX.cell 1
 simp only [List.getElem?_cons_zero,List.getElem?_cons_succ] at u0 u1
 clear bx hal hal2 hS0 hS1 hS2 e0 e1 q0 q1 q2 g0 g1 pX
 have hq2:(q:Int)<2:=by omega
 have hv0:(hv == 0)=z:=by rw [hz];by_cases h:hv=0<;>simp [h]
 clear hz
 go_wp2_with fail
 generalize (w1.alloc (.cells #[.int .i64 5,.int .i64 q,.int .i64 x2] 109)).drew=W3 at *
 go_wp2
 go_ret
 exact ⟨rfl,bw⟩

theorem l03Can_done {w:World} {a:Option Addr} {len cap:Nat} {cs:Sl × Sl × Sl} {rows:List (List I3)} {s:S4} {m:V4} (hl:len=3) (hR:RowsAt w a cs rows) (h:Vmem w s m) (hs:shapeOk m=true) {k:Nat} (hk:k<3) (hd:doneM rows m k=true) :
  Calls Tryz.prog 143 #[.agg #[.slice a len cap],s.val,.int .i64 k] w fun e w'=>e=.returned (.bool false)∧Below w.heap.size w w':=by
 have kD:=fun (W:World) (hR:RowsAt W a cs rows) (h:Vmem W s m)=>l03Done_is (cap:=cap) hl hR h hs hk
 rw [hd] at kD
 have hM:=fun (W:World) (hb:Below w.heap.size w W)=>h.below hb
 obtain ⟨⟨a0,n0,c0⟩,⟨a1,n1,c1⟩,⟨a2,n2,c2⟩,⟨a3,n3,c3⟩⟩:=s
 have uA:S4.val ((a0,n0,c0),(a1,n1,c1),(a2,n2,c2),(a3,n3,c3))=.agg #[.slice a0 n0 c0,.slice a1 n1 c1,.slice a2 n2 c2,.slice a3 n3 c3]:=rfl
 rw [uA] at kD ⊢
 clear uA h hl
 have bw:Below w.heap.size w ((w.alloc (.cells #[.slice a len cap] 69)).alloc (.cells #[.slice a0 n0 c0,.slice a1 n1 c1,.slice a2 n2 c2,.slice a3 n3 c3] 123)):=by go_grown
 go_enter Tryz.func143,Tryz.ntmps143
 go_wp2_with fail
 refine (kD _ (hR.below bw) (hM _ bw)).mono ?_
 rintro e w1 ⟨rfl,hb⟩
 replace bw:=bel_trans bw hb
 go_wp2
 go_ret
 exact ⟨rfl,bw⟩

theorem l03Can_is {w:World} {a:Option Addr} {len cap:Nat} {cs:Sl × Sl × Sl} {rows:List (List I3)} {s:S4} {m:V4} (hl:len=3) (hR:RowsAt w a cs rows) (h:Vmem w s m) (hp:progOk rows=true) (hs:shapeOk m=true) {k:Nat} (hk:k<3) :
  Calls Tryz.prog 143 #[.agg #[.slice a len cap],s.val,.int .i64 k] w fun e w'=>e=.returned (.bool (canM rows m k))∧Below w.heap.size w w':=by
 unfold canM
 cases hd:doneM rows m k
 ·obtain ⟨p,ep,hlt,hi,hok⟩:=at_ins hp hs hk hd
  obtain ⟨b,off,rfl,_,hrow⟩:=hR
  obtain ⟨r0,hI⟩:=hrow k hk
  obtain ⟨⟨j0,_⟩,⟨j1,_⟩,⟨j2,_⟩,⟨j3,_⟩⟩:=h
  obtain ⟨l0,l1,l2,l3,_⟩:=shape_parts hs
  obtain ⟨⟨a0,n0,c0⟩,⟨a1,n1,c1⟩,⟨a2,n2,c2⟩,⟨a3,n3,c3⟩⟩:=s
  simp only at j0 j1 j2 j3
  obtain ⟨rfl,b0,o0,rfl⟩:=some_of_ints j0 l0 (by decide)
  have r1:=ints_at9 j0 (t:=k) hk
  rw [ep] at r1
  obtain ⟨cb,co,ea,hpn,q0,q1,q2⟩:=ins_at hI hlt
  rw [← hi] at q0 q1 q2
  rw [ea] at r0
  by_cases h5:(insM rows m k).1=5
  ·obtain ⟨q,hq,hq2⟩:=okI_lock hok h5
   rw [h5] at q0
   rw [hq] at q1
   obtain ⟨rfl,b2,o2,rfl⟩:=some_of_ints j2 l2 (by decide)
   have hh:=ints_at9 j2 (t:=q) hq2
   have e:(!atLock m (insM rows m k))=decide (m.2.2.1.getD q 0=0):=by
    unfold atLock
    rw [h5,hq]
    simp
   rw [e]
   exact l03Can_lock b off len cap b0 o0 c0 a1 n1 c1 c2 a3 n3 c3 k cb co _ _ p _ b2 o2 q _ w hk hl hpn r0 r1 q0 q1 q2 hq2 hh _ rfl
  ·have e:atLock m (insM rows m k)=false:=by unfold atLock;simp [h5]
   rw [e]
   exact l03Can_free b off len cap b0 o0 c0 a1 n1 c1 a2 n2 c2 a3 n3 c3 k cb co _ _ p _ _ _ w hk hl hpn r0 r1 q0 q1 q2 h5
 ·exact l03Can_done hl hR h hs hk hd


theorem own_ne_blk {w:World} {B e s n g t:Nat} {v:Value} {xs cs:List Value} (h:w.ownsRow B e s v n xs) (hB:Blk w g t cs) (he:e≠t):v.ownBlock≠some g:=by
 rcases h.2 with ⟨rfl,_⟩ | ⟨g',cap,cur,rfl,_,hg,_⟩
 ·simp [Value.ownBlock]
 ·simp only [Value.ownBlock,ne_eq,Option.some.injEq]
  rintro rfl
  unfold Blk at hB
  rw [hg] at hB
  simp at hB
  exact he hB.2

theorem l03Enabled_is (a:Option Addr) (len cap:Nat) (rows:List (List I3)) (s:S4) (m:V4) (cs:Sl × Sl × Sl) (w:World) (hl:len=3) (hR:RowsAt w a cs rows) (h:Vmem w s m) (hp:progOk rows=true) (hs:shapeOk m=true) :
  Calls Tryz.prog 117 #[.agg #[.slice a len cap],s.val] w fun e w'=>(∃ s9:Sl,e=.returned (.slice s9.1 s9.2.1 s9.2.2)∧OwnI w' w.heap.size s9 (enabM rows m 3))∧Below w.heap.size w w':=by
 obtain ⟨i0,hi,hz0,hz1,hz2⟩:=info_parts info_int
 have kC:=fun (W:World) (hR:RowsAt W a cs rows) (h:Vmem W s m) (k:Nat) (hk:k<3)=>l03Can_is (cap:=cap) hl hR h hp hs hk
 have hM:=fun (W:World) (hb:Below w.heap.size w W)=>h.below hb
 obtain ⟨⟨a0,n0,c0⟩,⟨a1,n1,c1⟩,⟨a2,n2,c2⟩,⟨a3,n3,c3⟩⟩:=s
 have uA:S4.val ((a0,n0,c0),(a1,n1,c1),(a2,n2,c2),(a3,n3,c3))=.agg #[.slice a0 n0 c0,.slice a1 n1 c1,.slice a2 n2 c2,.slice a3 n3 c3]:=rfl
 rw [uA] at kC ⊢
 clear uA h hl
 have bw:Below w.heap.size w (((w.alloc (.cells #[.slice a len cap] 69)).alloc (.cells #[.slice a0 n0 c0,.slice a1 n1 c1,.slice a2 n2 c2,.slice a3 n3 c3] 123)).alloc (.cells #[] 3)):=by go_grown
 have pP:Blk (((w.alloc (.cells #[.slice a len cap] 69)).alloc (.cells #[.slice a0 n0 c0,.slice a1 n1 c1,.slice a2 n2 c2,.slice a3 n3 c3] 123)).alloc (.cells #[] 3)) w.heap.size 69 [.slice a len cap]:=blkOld _ (blkOld _ (blkAt _ _ _ rfl))
 have pS:Blk (((w.alloc (.cells #[.slice a len cap] 69)).alloc (.cells #[.slice a0 n0 c0,.slice a1 n1 c1,.slice a2 n2 c2,.slice a3 n3 c3] 123)).alloc (.cells #[] 3)) (w.heap.size+1) 123 [.slice a0 n0 c0,.slice a1 n1 c1,.slice a2 n2 c2,.slice a3 n3 c3]:=blkOld _ (blkAt _ _ _ (by simp))
 have hq:(((w.alloc (.cells #[.slice a len cap] 69)).alloc (.cells #[.slice a0 n0 c0,.slice a1 n1 c1,.slice a2 n2 c2,.slice a3 n3 c3] 123)).alloc (.cells #[] 3)).ownsRow w.heap.size 3 1 (.slice (some ⟨w.heap.size+1+1,0,none⟩) 0 0) 0 ((enabM rows m 0).map (Value.int .i64)):=by
  have h9:=own_empty ((w.alloc (.cells #[.slice a len cap] 69)).alloc (.cells #[.slice a0 n0 c0,.slice a1 n1 c1,.slice a2 n2 c2,.slice a3 n3 c3] 123)) 3 1 w.heap.size (by simp;omega)
  simp only [World.size_alloc] at h9
  exact h9
 go_enter Tryz.func117,Tryz.ntmps117
 go_wp2_with fail
 generalize ((w.alloc (.cells #[.slice a len cap] 69)).alloc (.cells #[.slice a0 n0 c0,.slice a1 n1 c1,.slice a2 n2 c2,.slice a3 n3 c3] 123)).alloc (.cells #[] 3)=W0 at *
 go_loopw [5,6] (fun so si wr=>∃ (k:Nat) (n:Nat) (v:Value),v=so∧k≤3∧si=.int .i64 k∧Hid (n=(enabM rows m k).length)∧wr.ownsRow w.heap.size 3 1 v n ((enabM rows m k).map (Value.int .i64))∧Blk wr w.heap.size 69 [.slice a len cap]∧Blk wr (w.heap.size+1) 123 [.slice a0 n0 c0,.slice a1 n1 c1,.slice a2 n2 c2,.slice a3 n3 c3]∧Below w.heap.size w wr) (fun _ si _=>3 - (intOf si).toNat)
 case atStart=>exact ⟨0,0,_,rfl,by omega,rfl,rfl,hq,pP,pS,bw⟩
 case round =>
  clear hq pP pS bw
  obtain ⟨k,n,so,rfl,hk,rfl,HN,hr,pP,pS,hbw⟩:=hrel
  by_cases hlt:k<3
  ·have hk3:(k:Int)<3:=by omega
   have kC1:=kC _ (hR.below hbw) (hM _ hbw) k hlt
   have gP:=pP.cell 0
   have gS0:=pS.cell 0
   have gS1:=pS.cell 1
   have gS2:=pS.cell 2
   have gS3:=pS.cell 3
   simp only [List.getElem?_cons_zero,List.getElem?_cons_succ] at gP gS0 gS1 gS2 gS3
   cases hcan:canM rows m k
   ·rw [hcan] at kC1
    have HN2:Hid (n=(enabM rows m (k+1)).length):=by rw [Hid,enabM_no hcan];exact HN.out
    rw [← enabM_no hcan] at hr
    go_wp2_with fail
    refine kC1.mono ?_
    rintro e w1 ⟨rfl,hb⟩
    replace hr:=owns_below hr hb
    replace pP:=pP.below hb
    replace pS:=pS.below hb
    replace hbw:=bel_trans hbw hb
    clear hb gP gS0 gS1 gS2 gS3 kC1
    go_wp2
    go_roundw
    case rel=>exact ⟨k+1,n,_,rfl,by omega,by go_num,HN2,hr,pP,pS,hbw⟩
    case measure=>simp [intOf];omega
   ·rw [hcan] at kC1
    have hn3:n≤3:=by have:=enabM_len rows m k;have:=HN.out;omega
    have HN2:Hid (n+1=(enabM rows m (k+1)).length):=by rw [Hid,enabM_yes hcan,List.length_append,← HN.out];rfl
    have HX:Hid (enabM rows m (k+1)=enabM rows m k++[(k:Int)]):=enabM_yes hcan
    go_wp2_with fail
    refine kC1.mono ?_
    rintro e w2 ⟨rfl,hb⟩
    replace hr:=owns_below hr hb
    replace pP:=pP.below hb
    replace pS:=pS.below hb
    replace hbw:=bel_trans hbw hb
    have hsz:=hbw.size
    clear hb gP gS0 gS1 gS2 gS3 kC1
    go_wp2_with (at_builtin;refine wpList_append_own _ rfl _ _ 40 rfl w.heap.size 3 i0 (.int .i64 0) 1 8 Tryz.underlying40 hi hz0 hz1 hz2 rfl (by decide) _ _ _ rfl (hr.alloc _) ⟨w2.heap.size,0,none⟩ 1 1 [.int .i64 (k:Int)] rfl rfl (cell_one_new _ _ _) (by simp [Value.oneCell']) ?c3 ?c4 ?c5 ?_)
    case c3=>unfold maxLen;omega
    case c4=>omega
    case c5=>simp;omega
    intro v' wn hown' hgrow _
    have R:wn.ownsRow w.heap.size 3 1 v' (n+1) ((enabM rows m (k+1)).map (Value.int .i64)):=by
     rw [HX.out,List.map_append]
     exact hown'
    have bn:Below w.heap.size w wn:=(hbw.alloc hsz _).grown hgrow (by simp;omega) (fun k hk=>(hr.lt k hk).1)
    have pP2:Blk wn w.heap.size 69 [.slice a len cap]:=(blkOld _ pP).kept hgrow (own_ne_blk hr pP (by decide))
    have pS2:Blk wn (w.heap.size+1) 123 [.slice a0 n0 c0,.slice a1 n1 c1,.slice a2 n2 c2,.slice a3 n3 c3]:=(blkOld _ pS).kept hgrow (own_ne_blk hr pS (by decide))
    clear hown' hgrow hr hbw HX pP pS
    go_wp2
    go_roundw
    case rel=>exact ⟨k+1,n+1,_,rfl,by omega,by go_num,HN2,R,pP2,pS2,bn⟩
    case measure=>simp [intOf];omega
  ·obtain rfl:k=3:=by omega
   obtain ⟨a',c',rfl⟩:∃ a c,so=.slice a n c:=by
    rcases hr.2 with ⟨rfl,rfl⟩ | ⟨g',cap',cur,hv,_⟩
    ·exact ⟨none,0,rfl⟩
    ·exact ⟨_,cap',hv⟩
   clear kC hM
   go_wp2
   go_ret
   exact ⟨⟨(a',n,c'),rfl,hr⟩,hbw⟩

end Go.Proofs.YtdopgkbegjfhjaaGreatDoor
