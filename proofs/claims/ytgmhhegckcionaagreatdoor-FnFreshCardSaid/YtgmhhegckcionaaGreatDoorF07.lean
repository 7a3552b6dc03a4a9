/-
  Joined: MarkV, MarkW, OwnS, SpecO.
-/
import Derived.Maps.AppendAt
import Derived.Test.YtgmhhegckcionaaGreatDoorF05

namespace Go.Proofs.YtgmhhegckcionaaGreatDoor
set_option maxRecDepth 100000
set_option maxHeartbeats 16000000
open Go.RowKit

theorem Sl.some_or {w:World} {B:Nat} {s:Sl} {zs:List Int} (h:Z0 w B s zs):(s=(none,0,0)∧zs=[])∨∃ g n c,s=(some ⟨g,0,none⟩,n,c):=by
 obtain ⟨a,n,c⟩:=s
 unfold Z0 at h
 simp only at h
 rcases h.2 with ⟨h0,h1⟩ | ⟨g,cap,cur,hv,_⟩
 ·cases h0
  exact .inl ⟨rfl,by simpa using h.1⟩
 cases hv
 exact .inr ⟨g,n,c,rfl⟩

theorem Z0.len {w:World} {B:Nat} {s:Sl} {zs:List Int} (h:Z0 w B s zs):zs.length=s.2.1:=by
 have:=h.1
 simpa using this
theorem VY.symm {s s':Sl} (h:VY s s'):VY s' s:=fun g h1 h2=>h g h2 h1


theorem Z0.lower9 {w:World} {B B':Nat} {s:Sl} {zs:List Int} (h:Z0 w B s zs) (hB:B'≤B):Z0 w B' s zs:=Xv h hB
theorem Z3.lower9 {w:World} {B B':Nat} {s:S4} {m:V4} (h:Z3 w B s m) (hB:B'≤B):Z3 w B' s m:=⟨⟨h.1.1.lower9 hB,h.1.2.1.lower9 hB,h.1.2.2.1.lower9 hB,h.1.2.2.2.lower9 hB⟩,h.2⟩
theorem Zk {w:World} {B e s n g t:Nat} {v:Value} {xs cs:List Value} (h:w.ownsRow B e s v n xs) (hB:Blk w g t cs) (he:e≠t):v.ownBlock≠some g:=by
 rcases h.2 with ⟨rfl,_⟩ | ⟨g',cap,cur,rfl,_,hg,_⟩
 ·simp [Value.ownBlock]
 simp only [Value.ownBlock,ne_eq,Option.some.injEq]
 rintro rfl
 unfold Blk at hB
 rw [hg] at hB
 simp at hB
 exact he hB.2


theorem Z0.at9 {w:World} {B g n c:Nat} {zs:List Int} (h:Z0 w B (some ⟨g,0,none⟩,n,c) zs) {j:Nat} (hj:j<n):w.cell? ⟨g,j,none⟩=some (.int .i64 (zs.getD j 0)):=by
 have hl:=h.len
 simp only at hl
 have:=h.cellAt j (by simp only;omega)
 rw [this]
 simp [List.getElem?_eq_getElem (show j<zs.length by omega)]
theorem Z0.frz9 {w:World} {B g n c:Nat} {zs:List Int} (h:Z0 w B (some ⟨g,0,none⟩,n,c) zs) (j:Nat):w.frozen? ⟨g,j,none⟩=false:=h.frozenAt j
theorem Z0.set9 {w:World} {B g n c:Nat} {zs:List Int} (h:Z0 w B (some ⟨g,0,none⟩,n,c) zs) (j:Nat) (v:Int):Z0 (w.setCell ⟨g,j,none⟩ (.int .i64 v)) B (some ⟨g,0,none⟩,n,c) (zs.set j v):=by
 have:=(h.stored j (.int .i64 v)).1
 rw [← List.map_set] at this
 exact this
theorem Z0.away9 {w:World} {B g n c:Nat} {s:Sl} {zs:List Int} (h:Z0 w B s zs) (ha:VY (some ⟨g,0,none⟩,n,c) s) (j:Nat) (v:Value):Z0 (w.setCell ⟨g,j,none⟩ v) B s zs:=
 ownsRow_setCell_other h (fun e=>ha g rfl e) v
theorem Z0.lo9 {w:World} {B g n c:Nat} {zs:List Int} (h:Z0 w B (some ⟨g,0,none⟩,n,c) zs):B≤g∧g<w.heap.size:=h.lt g rfl

section
variable {w : World} {B g n c : Nat} {s0 s1 s2 s3 : Sl} {m : V4}
theorem Z3.set0 (h:Z3 w B ((some ⟨g,0,none⟩,n,c),s1,s2,s3) m) (j:Nat) (v:Int):Z3 (w.setCell ⟨g,j,none⟩ (.int .i64 v)) B ((some ⟨g,0,none⟩,n,c),s1,s2,s3) (m.1.set j v,m.2):=
 ⟨⟨h.1.1.set9 j v,h.1.2.1.away9 h.2.1 j _,h.1.2.2.1.away9 h.2.2.1 j _,h.1.2.2.2.away9 h.2.2.2.1 j _⟩,h.2⟩
theorem Z3.set1 (h:Z3 w B (s0,(some ⟨g,0,none⟩,n,c),s2,s3) m) (j:Nat) (v:Int):Z3 (w.setCell ⟨g,j,none⟩ (.int .i64 v)) B (s0,(some ⟨g,0,none⟩,n,c),s2,s3) (m.1,m.2.1.set j v,m.2.2):=
 ⟨⟨h.1.1.away9 h.2.1.symm j _,h.1.2.1.set9 j v,h.1.2.2.1.away9 h.2.2.2.2.1 j _,h.1.2.2.2.away9 h.2.2.2.2.2.1 j _⟩,h.2⟩
theorem Z3.set2 (h:Z3 w B (s0,s1,(some ⟨g,0,none⟩,n,c),s3) m) (j:Nat) (v:Int):Z3 (w.setCell ⟨g,j,none⟩ (.int .i64 v)) B (s0,s1,(some ⟨g,0,none⟩,n,c),s3) (m.1,m.2.1,m.2.2.1.set j v,m.2.2.2):=
 ⟨⟨h.1.1.away9 h.2.2.1.symm j _,h.1.2.1.away9 h.2.2.2.2.1.symm j _,h.1.2.2.1.set9 j v,h.1.2.2.2.away9 h.2.2.2.2.2.2 j _⟩,h.2⟩
theorem Z3.set3 (h:Z3 w B (s0,s1,s2,(some ⟨g,0,none⟩,n,c)) m) (j:Nat) (v:Int):Z3 (w.setCell ⟨g,j,none⟩ (.int .i64 v)) B (s0,s1,s2,(some ⟨g,0,none⟩,n,c)) (m.1,m.2.1,m.2.2.1,m.2.2.2.set j v):=
 ⟨⟨h.1.1.away9 h.2.2.2.1.symm j _,h.1.2.1.away9 h.2.2.2.2.2.1.symm j _,h.1.2.2.1.away9 h.2.2.2.2.2.2.symm j _,h.1.2.2.2.set9 j v⟩,h.2⟩
end
theorem Z0.some9 {w:World} {B:Nat} {s:Sl} {zs:List Int} {k:Nat} (h:Z0 w B s zs) (hl:zs.length=k) (hk:0<k):∃ g c,s=(some ⟨g,0,none⟩,k,c)∧k≤c∧c≤maxLen:=by
 have hi:=h.ints
 rcases Sl.some_or h with ⟨rfl,rfl⟩ | ⟨g,n,c,rfl⟩
 ·simp at hl;omega
 obtain ⟨h1,h2,h3,_⟩:=hi
 simp only at h1 h2 h3
 exact ⟨g,c,by rw [← h1,hl],by omega,h3⟩
theorem Z0.ne9 {w:World} {B g n c X t:Nat} {zs:List Int} {cs:List Value} (h:Z0 w B (some ⟨g,0,none⟩,n,c) zs) (hX:Blk w X t cs) (ht:3≠t):X≠g:=fun e=>Zk h hX ht (by rw [e];rfl)
theorem SO (w:World) (B:Nat):Z3 w B ((none,0,0),(none,0,0),(none,0,0),(none,0,0)) ([],[],[],[]):=by
 have h:Z0 w B (none,0,0) []:=World.ownsRow_nil _ _ _ _
 have a:VY (none,0,0) (none,0,0):=fun g hg=>by simp [Value.ownBlock] at hg
 exact ⟨⟨h,h,h,h⟩,a,a,a,a,a,a⟩
theorem Z0.kept9 {w w':World} {B X t:Nat} {s:Sl} {zs:List Int} {cs:List Value} (h:Z0 w B s zs) (hg:w.grownBy w' (some X)) (hX:Blk w X t cs) (ht:3≠t):Z0 w' B s zs:=World.ownsRow.kept h hg (.inr (Zk h hX ht))
theorem Z0.awayB9 {w:World} {B X t:Nat} {s:Sl} {zs:List Int} {cs:List Value} (h:Z0 w B s zs) (hX:Blk w X t cs) (ht:3≠t) (j:Nat) (v:Value):Z0 (w.setCell ⟨X,j,none⟩ v) B s zs:=ownsRow_setCell_other h (Zk h hX ht) v
theorem Z3.awayB9 {w:World} {B X t:Nat} {s:S4} {m:V4} {cs:List Value} (h:Z3 w B s m) (hX:Blk w X t cs) (ht:3≠t) (j:Nat) (v:Value):Z3 (w.setCell ⟨X,j,none⟩ v) B s m:=⟨⟨h.1.1.awayB9 hX ht j v,h.1.2.1.awayB9 hX ht j v,h.1.2.2.1.awayB9 hX ht j v,h.1.2.2.2.awayB9 hX ht j v⟩,h.2⟩
theorem Z3.kept9 {w w':World} {B X t:Nat} {s:S4} {m:V4} {cs:List Value} (h:Z3 w B s m) (hg:w.grownBy w' (some X)) (hX:Blk w X t cs) (ht:3≠t):Z3 w' B s m:=⟨⟨h.1.1.kept9 hg hX ht,h.1.2.1.kept9 hg hX ht,h.1.2.2.1.kept9 hg hX ht,h.1.2.2.2.kept9 hg hX ht⟩,h.2⟩

set_option linter.unusedVariables false
set_option linter.unusedSimpArgs false

def Qh (e:Ending) (w:World) (B:Nat) (z:V4):Prop:=∃ t:S4,e=.returned t.val∧Z3 w B t z
theorem Qh.mk9 {e:Ending} {w:World} {B:Nat} {z:V4} (t:S4) (h:e=.returned t.val) (hO:Z3 w B t z):Qh e w B z:=⟨t,h,hO⟩

theorem Pp {P:Program} {md:Region.Mode} {ops:Array Oper} {Q:Exit→Act→World→Prop} {S:World→Prop} (I:Nat→Array Bool→Act→World→Prop) (k:Nat)
  (hne:∀ n listed a w,I (n+1) listed a w→Region.ready md ops listed≠[])
  (hstep:∀ n listed a w,I (n+1) listed a w→∀ i ∈ Region.ready md ops listed,wpOp P ops Q i (fun a' w'=>S w'∧I n (listed.setIfInBounds i true) a' w') a w)
  (hend:∀ listed a w,I 0 listed a w→wpAnyH P md ops Q S k listed a w):∀ n listed a w,I n listed a w→wpAnyH P md ops Q S (n+k) listed a w
 | 0,listed,a,w,h=>by rw [Nat.zero_add];exact hend listed a w h
 | n+1,listed,a,w,h=>by
  rw [show n+1+k=(n+k)+1 by omega]
  refine ⟨fun h0=>absurd h0 (hne n listed a w h),fun i hi=>wpOp_mono (fun a' w' h'=>⟨h'.1,Pp I k hne hstep hend n _ a' w' h'.2⟩) (hstep n listed a w h i hi)⟩

theorem Xi {P:Program} {ops:Array Oper} {o:Oper} {a:Act} {w:World} {K:Act→World→Prop} {Q:Exit→Act→World→Prop} {E:Prop}
  (hg:o.guard=none) (s x:Operand) (t:TypeId) (hop:o.op=Op.call { callee:=Callee.builtin Builtin.append,args:=#[s,x],argTypes:=#[t,t] })
  (base:Nat) (e:TypeId) (i:TypeInfo) (z:Value) (size bytes:Nat) (h1:P.underlying t=some (.slice e)) (h2:P.info? e=some i) (h3:i.zero=some z) (h4:i.size=size) (h5:i.bytes=bytes) (h6:z.cells.size=size) (h7:0<size)
  (v:Value) (n:Nat) (olds:List Value) (hs:a.eval s=v) (hown:w.ownsRow base e size v n olds)
  (ad:Addr) (m c:Nat) (news:List Value) (hx:a.eval x=.slice (some ad) m c) (hn:news.length=m*size) (hc:∀ j u,news[j]?=some u→w.cell? (ad.add j)=some u) (h1c:∀ u ∈ news,u.oneCell'=true)
  (b1:n+m≤maxLen) (b2:(n+m)*bytes≤140737488355328) (hbw:base≤w.heap.size)
  (hK:∀ v' w',w'.ownsRow base e size v' (n+m) (olds++news)→w.grownBy w' v.ownBlock→(v'.ownBlock=v.ownBlock∨v'.ownBlock=some w.heap.size)→K (a.put o.dst v') w') :
  if Region.wanted o (yielded ops a.tmps)=true then Oper.wp P o a w K Q else E:=by
 have hw:Region.wanted o (yielded ops a.tmps)=true:=by simp [Region.wanted,hg]
 rw [if_pos hw]
 obtain ⟨v',w',hrun,r1,r2,_,r4⟩:=run_append_own_at (P:=P) (w:=w) base t o.type e i z size bytes h1 h2 h3 h4 h5 h6 h7 v n olds hown ad m c news hn hc h1c b1 b2 hbw
 subst hs
 unfold Oper.wp
 simp [execOp,hop,resolve,invoke,builtin,hx,hrun,Result.andThen]
 exact hK v' w' r1 r2 r4

def WL (W:World) (B:Nat) (e d:Bool) (x y v:Value) (zs:List Int):Prop:=
 (d=true→e=true∧y=v∧W.ownsRow B 3 1 v zs.length (zs.map (Value.int .i64)))∧(d=false→e=true→x=v∧W.ownsRow B 3 1 v 0 [])∧(e=false→d=false∧v=.slice none 0 0)
def Ap (v u:Value):Prop:=∀ g,v.ownBlock=some g→u.ownBlock≠some g
theorem Ap.symm {v u:Value} (h:Ap v u):Ap u v:=fun g h1 h2=>h g h2 h1
def cn1 (b:Bool):Nat:=if b then 0 else 1
theorem WL.row {W:World} {B:Nat} {e d:Bool} {x y v:Value} {zs:List Int} (h:WL W B e d x y v zs):∃ n xs,W.ownsRow B 3 1 v n xs:=by
 cases d
 ·cases e
  ·obtain ⟨_,rfl⟩:=h.2.2 rfl
   exact ⟨0,[],World.ownsRow_nil _ _ _ _⟩
  exact ⟨_,_,(h.2.1 rfl rfl).2⟩
 exact ⟨_,_,(h.1 rfl).2.2⟩
theorem WL.lt {W:World} {B:Nat} {e d:Bool} {x y v:Value} {zs:List Int} (h:WL W B e d x y v zs) {g:Nat} (hg:v.ownBlock=some g):g<W.heap.size:=by
 obtain ⟨n,xs,hr⟩:=h.row
 exact (hr.lt g hg).2
theorem WL.kept {W W':World} {B:Nat} {e d:Bool} {x y v u:Value} {zs:List Int} (h:WL W B e d x y v zs) (hg:W.grownBy W' u.ownBlock) (ha:Ap v u):WL W' B e d x y v zs:=by
 have hn:v.ownBlock=none∨v.ownBlock≠u.ownBlock:=by
  cases hv:v.ownBlock with
  | none=>exact .inl rfl
  | some g=>exact .inr fun e=>ha g hv e.symm
 exact ⟨fun h1=>⟨(h.1 h1).1,(h.1 h1).2.1,(h.1 h1).2.2.kept hg hn⟩,fun h1 h2=>⟨(h.2.1 h1 h2).1,(h.2.1 h1 h2).2.kept hg hn⟩,h.2.2⟩
theorem WL.new {W:World} {B:Nat} {e d:Bool} {x y v:Value} {zs:List Int} (h:WL W B e d x y v zs) (ob:Obj):WL (W.alloc ob) B e d x y v zs:=
 ⟨fun h1=>⟨(h.1 h1).1,(h.1 h1).2.1,(h.1 h1).2.2.alloc _⟩,fun h1 h2=>⟨(h.2.1 h1 h2).1,(h.2.1 h1 h2).2.alloc _⟩,h.2.2⟩
theorem Ap.new {W:World} {B:Nat} {e d:Bool} {x y v:Value} {zs:List Int} (h:WL W B e d x y v zs) (n c:Nat):Ap v (.slice (some ⟨W.heap.size,0,none⟩) n c):=fun g hg h2=>by
 have:=h.lt hg
 simp [Value.ownBlock] at h2
 omega
theorem Ap.grown {W:World} {B:Nat} {e d:Bool} {x y v u u':Value} {zs:List Int} (h:WL W B e d x y v zs) (ha:Ap v u) (hu:u'.ownBlock=u.ownBlock∨u'.ownBlock=some W.heap.size):Ap v u':=fun g hg h2=>by
 rcases hu with hu | hu
 ·exact ha g hg (hu▸h2)
 have:=h.lt hg
 rw [hu] at h2
 simp at h2
 omega

def Bn (w:World) (b0 o0 c0 b1 o1 c1 b2 o2 c2 b3 o3 c3:Nat) (m:V4) (n:Nat) (listed:Array Bool) (a:Act) (W:World):Prop:=
 ∃ (e0 e1 e2 e3 d0 d1 d2 d3:Bool) (x0 x1 x2 x3 y0 y1 y2 y3 v0 v1 v2 v3:Value),
  n=cn1 e0+cn1 d0+(cn1 e1+cn1 d1)+(cn1 e2+cn1 d2)+(cn1 e3+cn1 d3)∧listed=#[e0,true,true,d0,e1,true,true,d1,e2,true,true,d2,e3,true,true,d3,false,false]∧a={ tmps:=#[.agg #[.slice (some ⟨b0,o0,none⟩) 3 c0,.slice (some ⟨b1,o1,none⟩) 4 c1,.slice (some ⟨b2,o2,none⟩) 2 c2,.slice (some ⟨b3,o3,none⟩) 6 c3],.pointer (some ⟨w.heap.size,0,none⟩),.pointer (some ⟨w.heap.size+1,0,none⟩),x0,.pointer (some ⟨w.heap.size,0,none⟩),.slice (some ⟨b0,o0,none⟩) 3 c0,y0,x1,.pointer (some ⟨w.heap.size,1,none⟩),.slice (some ⟨b1,o1,none⟩) 4 c1,y1,x2,.pointer (some ⟨w.heap.size,2,none⟩),.slice (some ⟨b2,o2,none⟩) 2 c2,y2,x3,.pointer (some ⟨w.heap.size,3,none⟩),.slice (some ⟨b3,o3,none⟩) 6 c3,y3,undef],defers:=[] } ∧
  (WL W w.heap.size e0 d0 x0 y0 v0 m.1∧WL W w.heap.size e1 d1 x1 y1 v1 m.2.1∧WL W w.heap.size e2 d2 x2 y2 v2 m.2.2.1∧WL W w.heap.size e3 d3 x3 y3 v3 m.2.2.2) ∧
  (Ap v0 v1∧Ap v0 v2∧Ap v0 v3∧Ap v1 v2∧Ap v1 v3∧Ap v2 v3) ∧
  Blk W w.heap.size 88 [.slice (some ⟨b0,o0,none⟩) 3 c0,.slice (some ⟨b1,o1,none⟩) 4 c1,.slice (some ⟨b2,o2,none⟩) 2 c2,.slice (some ⟨b3,o3,none⟩) 6 c3]∧Blk W (w.heap.size+1) 88 [.slice none 0 0,.slice none 0 0,.slice none 0 0,.slice none 0 0]∧Below w.heap.size w W

theorem HJ (s:S4) (m:V4) (w:World) (h:Xd w s m) (hs:Zc m=true) :
  Calls Tryz.prog 153 #[s.val] w fun e w'=>Qh e w' w.heap.size m∧Below w.heap.size w w':=by
 obtain ⟨i0,hi,hz0,hz1,hz2⟩:=info_parts XQ
 obtain ⟨l0,l1,l2,l3,_⟩:=ZS hs
 obtain ⟨⟨j0,_⟩,⟨j1,_⟩,⟨j2,_⟩,⟨j3,_⟩⟩:=h
 obtain ⟨⟨a0,n0,c0⟩,⟨a1,n1,c1⟩,⟨a2,n2,c2⟩,⟨a3,n3,c3⟩⟩:=s
 simp only at j0 j1 j2 j3
 obtain ⟨rfl,b0,o0,rfl⟩:=ZA j0 l0 (by omega)
 obtain ⟨rfl,b1,o1,rfl⟩:=ZA j1 l1 (by omega)
 obtain ⟨rfl,b2,o2,rfl⟩:=ZA j2 l2 (by omega)
 obtain ⟨rfl,b3,o3,rfl⟩:=ZA j3 l3 (by omega)
 have uA:S4.val ((some ⟨b0,o0,none⟩,3,c0),(some ⟨b1,o1,none⟩,4,c1),(some ⟨b2,o2,none⟩,2,c2),(some ⟨b3,o3,none⟩,6,c3))=.agg #[.slice (some ⟨b0,o0,none⟩) 3 c0,.slice (some ⟨b1,o1,none⟩) 4 c1,.slice (some ⟨b2,o2,none⟩) 2 c2,.slice (some ⟨b3,o3,none⟩) 6 c3]:=rfl
 rw [uA]
 clear uA
 have bw:Below w.heap.size w ((w.alloc (.cells #[.slice (some ⟨b0,o0,none⟩) 3 c0,.slice (some ⟨b1,o1,none⟩) 4 c1,.slice (some ⟨b2,o2,none⟩) 2 c2,.slice (some ⟨b3,o3,none⟩) 6 c3] 88)).alloc (.cells #[.slice none 0 0,.slice none 0 0,.slice none 0 0,.slice none 0 0] 88)):=by go_grown
 have pP:Blk ((w.alloc (.cells #[.slice (some ⟨b0,o0,none⟩) 3 c0,.slice (some ⟨b1,o1,none⟩) 4 c1,.slice (some ⟨b2,o2,none⟩) 2 c2,.slice (some ⟨b3,o3,none⟩) 6 c3] 88)).alloc (.cells #[.slice none 0 0,.slice none 0 0,.slice none 0 0,.slice none 0 0] 88)) w.heap.size 88 [.slice (some ⟨b0,o0,none⟩) 3 c0,.slice (some ⟨b1,o1,none⟩) 4 c1,.slice (some ⟨b2,o2,none⟩) 2 c2,.slice (some ⟨b3,o3,none⟩) 6 c3]:=Zl _ (Zj _ _ _ rfl)
 have pR:Blk ((w.alloc (.cells #[.slice (some ⟨b0,o0,none⟩) 3 c0,.slice (some ⟨b1,o1,none⟩) 4 c1,.slice (some ⟨b2,o2,none⟩) 2 c2,.slice (some ⟨b3,o3,none⟩) 6 c3] 88)).alloc (.cells #[.slice none 0 0,.slice none 0 0,.slice none 0 0,.slice none 0 0] 88)) (w.heap.size+1) 88 [.slice none 0 0,.slice none 0 0,.slice none 0 0,.slice none 0 0]:=Zj _ _ _ (by simp)
 go_enter Tryz.func153,Tryz.ntmps153
 go_wp2_with fail
 generalize ((w.alloc (.cells #[.slice (some ⟨b0,o0,none⟩) 3 c0,.slice (some ⟨b1,o1,none⟩) 4 c1,.slice (some ⟨b2,o2,none⟩) 2 c2,.slice (some ⟨b3,o3,none⟩) 6 c3] 88)).alloc (.cells #[.slice none 0 0,.slice none 0 0,.slice none 0 0,.slice none 0 0] 88))=W0 at *
 have g0:=pP.cell 0
 have g1:=pP.cell 1
 have g2:=pP.cell 2
 have g3:=pP.cell 3
 simp only [List.getElem?_cons_zero,List.getElem?_cons_succ] at g0 g1 g2 g3
 refine wp_region_held_drew (S:=(fun w'=>w'.cell? ⟨w.heap.size,0,none⟩=some (.slice (some ⟨b0,o0,none⟩) 3 c0)∧w'.cell? ⟨w.heap.size,1,none⟩=some (.slice (some ⟨b1,o1,none⟩) 4 c1)∧w'.cell? ⟨w.heap.size,2,none⟩=some (.slice (some ⟨b2,o2,none⟩) 2 c2)∧w'.cell? ⟨w.heap.size,3,none⟩=some (.slice (some ⟨b3,o3,none⟩) 6 c3))) (by kernel_rfl) ⟨g0,g1,g2,g3⟩ (fun hS0=>?_)
 refine tkm 1 4 (.pointer (some ⟨w.heap.size,0,none⟩)) ?_
 refine tkm 2 5 (.slice (some ⟨b0,o0,none⟩) 3 c0) ?_
 refine tkm 5 8 (.pointer (some ⟨w.heap.size,1,none⟩)) ?_
 refine tkm 6 9 (.slice (some ⟨b1,o1,none⟩) 4 c1) ?_
 refine tkm 9 12 (.pointer (some ⟨w.heap.size,2,none⟩)) ?_
 refine tkm 10 13 (.slice (some ⟨b2,o2,none⟩) 2 c2) ?_
 refine tkm 13 16 (.pointer (some ⟨w.heap.size,3,none⟩)) ?_
 refine tkm 14 17 (.slice (some ⟨b3,o3,none⟩) 6 c3) ?_
 clear g0 g1 g2 g3 hS0
 refine Pp (Bn w b0 o0 c0 b1 o1 c1 b2 o2 c2 b3 o3 c3 m) 2 ?ne ?step ?fin 8 _ _ _ ?start
 case start =>
  have hc:∀ zs,WL W0.drew w.heap.size false false undef undef (.slice none 0 0) zs:=fun zs=>⟨(fun h=>by cases h),(fun _ h=>by cases h),fun _=>⟨rfl,rfl⟩⟩
  have ha:Ap (.slice none 0 0) (.slice none 0 0):=fun g hg=>by simp [Value.ownBlock] at hg
  exact ⟨false,false,false,false,false,false,false,false,undef,undef,undef,undef,undef,undef,undef,undef,.slice none 0 0,.slice none 0 0,.slice none 0 0,.slice none 0 0,rfl,rfl,rfl,⟨hc _,hc _,hc _,hc _⟩,⟨ha,ha,ha,ha,ha,ha⟩,pP.drew,pR.drew,bw.drew⟩
 case ne =>
  rintro n listed a W ⟨e0,e1,e2,e3,d0,d1,d2,d3,x0,x1,x2,x3,y0,y1,y2,y3,v0,v1,v2,v3,hn,rfl,rfl,⟨k0,k1,k2,k3⟩,_⟩ h0
  have z0:=k0.2.2
  have z1:=k1.2.2
  have z2:=k2.2.2
  have z3:=k3.2.2
  clear k0 k1 k2 k3
  revert h0 hn z0 z1 z2 z3
  cases e0<;>cases d0<;>cases e1<;>cases d1<;>cases e2<;>cases d2<;>cases e3<;>cases d3<;>intro hn h0 z0 z1 z2 z3<;>first | exact absurd (z0 rfl).1 (by decide) | exact absurd (z1 rfl).1 (by decide) | exact absurd (z2 rfl).1 (by decide) | exact absurd (z3 rfl).1 (by decide) | (exfalso;simp [cn1] at hn;done) | exact absurd h0 (of_decide_eq_false (by kernel_rfl))
 case fin =>
  rintro listed a W ⟨e0,e1,e2,e3,d0,d1,d2,d3,x0,x1,x2,x3,y0,y1,y2,y3,v0,v1,v2,v3,hn,rfl,rfl,⟨k0,k1,k2,k3⟩,⟨a01,a02,a03,a12,a13,a23⟩,pP,pR,bw⟩
  obtain ⟨rfl,rfl,rfl,rfl,rfl,rfl,rfl,rfl⟩:e0=true∧e1=true∧e2=true∧e3=true∧d0=true∧d1=true∧d2=true∧d3=true:=by
   unfold cn1 at hn
   cases e0<;>cases d0<;>cases e1<;>cases d1<;>cases e2<;>cases d2<;>cases e3<;>cases d3<;>simp at hn ⊢
  obtain ⟨_,rfl,q0⟩:=k0.1 rfl
  obtain ⟨_,rfl,q1⟩:=k1.1 rfl
  obtain ⟨_,rfl,q2⟩:=k2.1 rfl
  obtain ⟨_,rfl,q3⟩:=k3.1 rfl
  clear k0 k1 k2 k3 hn
  rw [l0] at q0
  rw [l1] at q1
  rw [l2] at q2
  rw [l3] at q3
  obtain ⟨gg0,cc0,rfl⟩:∃ g c,y0=.slice (some ⟨g,0,none⟩) 3 c:=by
   rcases q0.2 with ⟨_,h5⟩ | ⟨g,cap,cur,hv,_⟩
   ·exact absurd h5 (by decide)
   exact ⟨g,cap,hv⟩
  obtain ⟨gg1,cc1,rfl⟩:∃ g c,y1=.slice (some ⟨g,0,none⟩) 4 c:=by
   rcases q1.2 with ⟨_,h5⟩ | ⟨g,cap,cur,hv,_⟩
   ·exact absurd h5 (by decide)
   exact ⟨g,cap,hv⟩
  obtain ⟨gg2,cc2,rfl⟩:∃ g c,y2=.slice (some ⟨g,0,none⟩) 2 c:=by
   rcases q2.2 with ⟨_,h5⟩ | ⟨g,cap,cur,hv,_⟩
   ·exact absurd h5 (by decide)
   exact ⟨g,cap,hv⟩
  obtain ⟨gg3,cc3,rfl⟩:∃ g c,y3=.slice (some ⟨g,0,none⟩) 6 c:=by
   rcases q3.2 with ⟨_,h5⟩ | ⟨g,cap,cur,hv,_⟩
   ·exact absurd h5 (by decide)
   exact ⟨g,cap,hv⟩
  have hO:Z3 W w.heap.size ((some ⟨gg0,0,none⟩,3,cc0),(some ⟨gg1,0,none⟩,4,cc1),(some ⟨gg2,0,none⟩,2,cc2),(some ⟨gg3,0,none⟩,6,cc3)) m:=⟨⟨q0,q1,q2,q3⟩,a01,a02,a03,a12,a13,a23⟩
  clear q0 q1 q2 q3 a01 a02 a03 a12 a13 a23 j0 j1 j2 j3
  have hS0:(fun w':World=>w'.cell? ⟨w.heap.size,0,none⟩=some (.slice (some ⟨b0,o0,none⟩) 3 c0)∧w'.cell? ⟨w.heap.size,1,none⟩=some (.slice (some ⟨b1,o1,none⟩) 4 c1)∧w'.cell? ⟨w.heap.size,2,none⟩=some (.slice (some ⟨b2,o2,none⟩) 2 c2)∧w'.cell? ⟨w.heap.size,3,none⟩=some (.slice (some ⟨b3,o3,none⟩) 6 c3)) W:=⟨by simpa using pP.cell 0,by simpa using pP.cell 1,by simpa using pP.cell 2,by simpa using pP.cell 3⟩
  refine wpAnyH_take (i:=16) (oi:=⟨some 19,_,_,_,_,_⟩) (v:=.agg #[.slice (some ⟨gg0,0,none⟩) 3 cc0,.slice (some ⟨gg1,0,none⟩) 4 cc1,.slice (some ⟨gg2,0,none⟩) 2 cc2,.slice (some ⟨gg3,0,none⟩) 6 cc3]) rfl (by kernel_rfl) (by kernel_rfl) (by kernel_rfl) (fun _ _ _ h=>h) (Or.inl ⟨by rfl,?_⟩) hS0 ?_
  ·(intro w' hSw;(try dsimp only at hSw);go_simp;try rfl)
  simp only [Act.put,tka,tkb,tkc]
  have nPR:w.heap.size≠w.heap.size+1:=by omega
  have r0:W.cell? ⟨w.heap.size+1,0,none⟩=some (.slice none 0 0):=by simpa using pR.cell 0
  have r1:W.cell? ⟨w.heap.size+1,1,none⟩=some (.slice none 0 0):=by simpa using pR.cell 1
  have r2:W.cell? ⟨w.heap.size+1,2,none⟩=some (.slice none 0 0):=by simpa using pR.cell 2
  have r3:W.cell? ⟨w.heap.size+1,3,none⟩=some (.slice none 0 0):=by simpa using pR.cell 3
  have f0:=pR.frozen 0
  have f1:=pR.frozen 1
  have f2:=pR.frozen 2
  have f3:=pR.frozen 3
  have pR4:=(((pR.set 0 (.slice (some ⟨gg0,0,none⟩) 3 cc0)).set 1 (.slice (some ⟨gg1,0,none⟩) 4 cc1)).set 2 (.slice (some ⟨gg2,0,none⟩) 2 cc2)).set 3 (.slice (some ⟨gg3,0,none⟩) 6 cc3)
  simp only [List.set_cons_zero,List.set_cons_succ] at pR4
  have pP4:=(((pP.off ⟨w.heap.size+1,0,none⟩ (.slice (some ⟨gg0,0,none⟩) 3 cc0) nPR).off ⟨w.heap.size+1,1,none⟩ (.slice (some ⟨gg1,0,none⟩) 4 cc1) nPR).off ⟨w.heap.size+1,2,none⟩ (.slice (some ⟨gg2,0,none⟩) 2 cc2) nPR).off ⟨w.heap.size+1,3,none⟩ (.slice (some ⟨gg3,0,none⟩) 6 cc3) nPR
  have b4:=(((bw.setCell (p:=⟨w.heap.size+1,0,none⟩) (by simp) (.slice (some ⟨gg0,0,none⟩) 3 cc0)).setCell (p:=⟨w.heap.size+1,1,none⟩) (by simp) (.slice (some ⟨gg1,0,none⟩) 4 cc1)).setCell (p:=⟨w.heap.size+1,2,none⟩) (by simp) (.slice (some ⟨gg2,0,none⟩) 2 cc2)).setCell (p:=⟨w.heap.size+1,3,none⟩) (by simp) (.slice (some ⟨gg3,0,none⟩) 6 cc3)
  have hO4:=(((hO.awayB9 pR (by decide) 0 (.slice (some ⟨gg0,0,none⟩) 3 cc0)).awayB9 (pR.set 0 (.slice (some ⟨gg0,0,none⟩) 3 cc0)) (by decide) 1 (.slice (some ⟨gg1,0,none⟩) 4 cc1)).awayB9 ((pR.set 0 (.slice (some ⟨gg0,0,none⟩) 3 cc0)).set 1 (.slice (some ⟨gg1,0,none⟩) 4 cc1)) (by decide) 2 (.slice (some ⟨gg2,0,none⟩) 2 cc2)).awayB9 (((pR.set 0 (.slice (some ⟨gg0,0,none⟩) 3 cc0)).set 1 (.slice (some ⟨gg1,0,none⟩) 4 cc1)).set 2 (.slice (some ⟨gg2,0,none⟩) 2 cc2)) (by decide) 3 (.slice (some ⟨gg3,0,none⟩) 6 cc3)
  refine tkz 17 (fun K hK=>?_)
  go_simp
  refine hK.out _ _ ?_ (fun hS2=>?_)
  ·exact ⟨by simpa using pP4.cell 0,by simpa using pP4.cell 1,by simpa using pP4.cell 2,by simpa using pP4.cell 3⟩
  clear hK
  try simp only [Act.put,tka,tkb,tkc]
  refine wpAnyH_done (by kernel_rfl) ?_ _
  clear hS0 hS2 r0 r1 r2 r3 f0 f1 f2 f3 pR pP bw hO pP4
  generalize (((W.setCell ⟨w.heap.size+1,0,none⟩ (.slice (some ⟨gg0,0,none⟩) 3 cc0)).setCell ⟨w.heap.size+1,1,none⟩ (.slice (some ⟨gg1,0,none⟩) 4 cc1)).setCell ⟨w.heap.size+1,2,none⟩ (.slice (some ⟨gg2,0,none⟩) 2 cc2)).setCell ⟨w.heap.size+1,3,none⟩ (.slice (some ⟨gg3,0,none⟩) 6 cc3)=w5 at *
  go_wp2_with fail
  refine bodyPost_ret (UH Tryz.results153 _ _ _ _ _ _ rfl pR4 Tryz.underlying88 rfl (by kernel_rfl)) rfl ?_
  exact ⟨Qh.mk9 ((some ⟨gg0,0,none⟩,3,cc0),(some ⟨gg1,0,none⟩,4,cc1),(some ⟨gg2,0,none⟩,2,cc2),(some ⟨gg3,0,none⟩,6,cc3)) rfl hO4,b4⟩
 case step =>
  rintro n listed a W ⟨e0,e1,e2,e3,d0,d1,d2,d3,x0,x1,x2,x3,y0,y1,y2,y3,v0,v1,v2,v3,hn,rfl,rfl,⟨k0,k1,k2,k3⟩,⟨a01,a02,a03,a12,a13,a23⟩,pP,pR,bw⟩ i hi
  obtain ⟨hun,op,ho,hall⟩:=mem_ready.1 hi
  clear hi
  have hsz:=bw.size
  match i,hun,ho,hall with
  | 0,hun,ho,_ =>
   obtain rfl:e0=false:=by simpa using hun
   obtain ⟨rfl,_⟩:=k0.2.2 rfl
   have pP2:=Zl (.cells #[] 3) pP
   have pR2:=Zl (.cells #[] 3) pR
   have b2:=bw.alloc hsz (.cells #[] 3)
   have hn2:n=(cn1 true+cn1 false)+(cn1 e1+cn1 d1)+(cn1 e2+cn1 d2)+(cn1 e3+cn1 d3):=by simp only [cn1] at hn ⊢;simp at hn ⊢;omega
   refine wpOp_step (o:=⟨some 3,_,_,_,_,_⟩) rfl (fun K' hK'=>?_)
   go_simp
   refine hK' _ _ ⟨⟨by simpa using pP2.cell 0,by simpa using pP2.cell 1,by simpa using pP2.cell 2,by simpa using pP2.cell 3⟩,true,e1,e2,e3,false,d1,d2,d3,.slice (some ⟨W.heap.size,0,none⟩) 0 0,x1,x2,x3,y0,y1,y2,y3,.slice (some ⟨W.heap.size,0,none⟩) 0 0,v1,v2,v3,hn2,by simp,by simp [Act.put],⟨⟨(fun h=>by cases h),(fun _ _=>⟨rfl,WD W 3 1 w.heap.size hsz⟩),(fun h=>by cases h)⟩,k1.new _,k2.new _,k3.new _⟩,⟨(Ap.new k1 0 0).symm,(Ap.new k2 0 0).symm,(Ap.new k3 0 0).symm,a12,a13,a23⟩,pP2,pR2,b2⟩
  | 1,hun,_,_=>exact absurd hun (by simp)
  | 2,hun,_,_=>exact absurd hun (by simp)
  | 3,hun,ho,hall =>
   obtain rfl:d0=false:=by simpa using hun
   obtain rfl:e0=true:=by
    simp only [List.getElem?_toArray,List.getElem?_cons_zero,List.getElem?_cons_succ,Option.some.injEq] at ho
    subst ho
    have:=hall { on:=0,ground:=Ground.data } (by simp) rfl
    simpa using this
   obtain ⟨rfl,qo⟩:=k0.2.1 rfl rfl
   have hn2:n=(cn1 true+cn1 true)+(cn1 e1+cn1 d1)+(cn1 e2+cn1 d2)+(cn1 e3+cn1 d3):=by simp only [cn1] at hn ⊢;simp at hn ⊢;omega
   refine wpOp_step (o:=⟨some 6,_,_,_,_,_⟩) rfl (fun K' hK'=>?_)
   refine Xi rfl _ _ 36 rfl w.heap.size 3 i0 (.int .i64 0) 1 8 Tryz.underlying36 hi hz0 hz1 hz2 rfl (by decide) _ _ _ rfl qo ⟨b0,o0,none⟩ 3 c0 (m.1.map (Value.int .i64)) rfl (by simp [l0]) (Wf (j0.below bw)) (WT _) (by unfold maxLen;omega) (by omega) hsz ?_
   intro u1 U1 qn gr hat
   have qn2:U1.ownsRow w.heap.size 3 1 u1 (m.1).length (m.1.map (Value.int .i64)):=by simpa [l0] using qn
   have pP2:=pP.kept gr (Zk qo pP (by decide))
   have pR2:=pR.kept gr (Zk qo pR (by decide))
   have b2:=bw.grown gr hsz (fun x hx=>(qo.lt x hx).1)
   refine hK' _ _ ⟨⟨by simpa using pP2.cell 0,by simpa using pP2.cell 1,by simpa using pP2.cell 2,by simpa using pP2.cell 3⟩,true,e1,e2,e3,true,d1,d2,d3,x0,x1,x2,x3,u1,y1,y2,y3,u1,v1,v2,v3,hn2,by simp,by simp [Act.put],⟨⟨(fun _=>⟨rfl,rfl,qn2⟩),(fun h=>by cases h),(fun h=>by cases h)⟩,k1.kept gr a01.symm,k2.kept gr a02.symm,k3.kept gr a03.symm⟩,⟨(Ap.grown k1 a01.symm hat).symm,(Ap.grown k2 a02.symm hat).symm,(Ap.grown k3 a03.symm hat).symm,a12,a13,a23⟩,pP2,pR2,b2⟩
  | 4,hun,ho,_ =>
   obtain rfl:e1=false:=by simpa using hun
   obtain ⟨rfl,_⟩:=k1.2.2 rfl
   have pP2:=Zl (.cells #[] 3) pP
   have pR2:=Zl (.cells #[] 3) pR
   have b2:=bw.alloc hsz (.cells #[] 3)
   have hn2:n=(cn1 e0+cn1 d0)+(cn1 true+cn1 false)+(cn1 e2+cn1 d2)+(cn1 e3+cn1 d3):=by simp only [cn1] at hn ⊢;simp at hn ⊢;omega
   refine wpOp_step (o:=⟨some 7,_,_,_,_,_⟩) rfl (fun K' hK'=>?_)
   go_simp
   refine hK' _ _ ⟨⟨by simpa using pP2.cell 0,by simpa using pP2.cell 1,by simpa using pP2.cell 2,by simpa using pP2.cell 3⟩,e0,true,e2,e3,d0,false,d2,d3,x0,.slice (some ⟨W.heap.size,0,none⟩) 0 0,x2,x3,y0,y1,y2,y3,v0,.slice (some ⟨W.heap.size,0,none⟩) 0 0,v2,v3,hn2,by simp,by simp [Act.put],⟨k0.new _,⟨(fun h=>by cases h),(fun _ _=>⟨rfl,WD W 3 1 w.heap.size hsz⟩),(fun h=>by cases h)⟩,k2.new _,k3.new _⟩,⟨Ap.new k0 0 0,a02,a03,(Ap.new k2 0 0).symm,(Ap.new k3 0 0).symm,a23⟩,pP2,pR2,b2⟩
  | 5,hun,_,_=>exact absurd hun (by simp)
  | 6,hun,_,_=>exact absurd hun (by simp)
  | 7,hun,ho,hall =>
   obtain rfl:d1=false:=by simpa using hun
   obtain rfl:e1=true:=by
    simp only [List.getElem?_toArray,List.getElem?_cons_zero,List.getElem?_cons_succ,Option.some.injEq] at ho
    subst ho
    have:=hall { on:=4,ground:=Ground.data } (by simp) rfl
    simpa using this
   obtain ⟨rfl,qo⟩:=k1.2.1 rfl rfl
   have hn2:n=(cn1 e0+cn1 d0)+(cn1 true+cn1 true)+(cn1 e2+cn1 d2)+(cn1 e3+cn1 d3):=by simp only [cn1] at hn ⊢;simp at hn ⊢;omega
   refine wpOp_step (o:=⟨some 10,_,_,_,_,_⟩) rfl (fun K' hK'=>?_)
   refine Xi rfl _ _ 36 rfl w.heap.size 3 i0 (.int .i64 0) 1 8 Tryz.underlying36 hi hz0 hz1 hz2 rfl (by decide) _ _ _ rfl qo ⟨b1,o1,none⟩ 4 c1 (m.2.1.map (Value.int .i64)) rfl (by simp [l1]) (Wf (j1.below bw)) (WT _) (by unfold maxLen;omega) (by omega) hsz ?_
   intro u1 U1 qn gr hat
   have qn2:U1.ownsRow w.heap.size 3 1 u1 (m.2.1).length (m.2.1.map (Value.int .i64)):=by simpa [l1] using qn
   have pP2:=pP.kept gr (Zk qo pP (by decide))
   have pR2:=pR.kept gr (Zk qo pR (by decide))
   have b2:=bw.grown gr hsz (fun x hx=>(qo.lt x hx).1)
   refine hK' _ _ ⟨⟨by simpa using pP2.cell 0,by simpa using pP2.cell 1,by simpa using pP2.cell 2,by simpa using pP2.cell 3⟩,e0,true,e2,e3,d0,true,d2,d3,x0,x1,x2,x3,y0,u1,y2,y3,v0,u1,v2,v3,hn2,by simp,by simp [Act.put],⟨k0.kept gr a01,⟨(fun _=>⟨rfl,rfl,qn2⟩),(fun h=>by cases h),(fun h=>by cases h)⟩,k2.kept gr a12.symm,k3.kept gr a13.symm⟩,⟨Ap.grown k0 a01 hat,a02,a03,(Ap.grown k2 a12.symm hat).symm,(Ap.grown k3 a13.symm hat).symm,a23⟩,pP2,pR2,b2⟩
  | 8,hun,ho,_ =>
   obtain rfl:e2=false:=by simpa using hun
   obtain ⟨rfl,_⟩:=k2.2.2 rfl
   have pP2:=Zl (.cells #[] 3) pP
   have pR2:=Zl (.cells #[] 3) pR
   have b2:=bw.alloc hsz (.cells #[] 3)
   have hn2:n=(cn1 e0+cn1 d0)+(cn1 e1+cn1 d1)+(cn1 true+cn1 false)+(cn1 e3+cn1 d3):=by simp only [cn1] at hn ⊢;simp at hn ⊢;omega
   refine wpOp_step (o:=⟨some 11,_,_,_,_,_⟩) rfl (fun K' hK'=>?_)
   go_simp
   refine hK' _ _ ⟨⟨by simpa using pP2.cell 0,by simpa using pP2.cell 1,by simpa using pP2.cell 2,by simpa using pP2.cell 3⟩,e0,e1,true,e3,d0,d1,false,d3,x0,x1,.slice (some ⟨W.heap.size,0,none⟩) 0 0,x3,y0,y1,y2,y3,v0,v1,.slice (some ⟨W.heap.size,0,none⟩) 0 0,v3,hn2,by simp,by simp [Act.put],⟨k0.new _,k1.new _,⟨(fun h=>by cases h),(fun _ _=>⟨rfl,WD W 3 1 w.heap.size hsz⟩),(fun h=>by cases h)⟩,k3.new _⟩,⟨a01,Ap.new k0 0 0,a03,Ap.new k1 0 0,a13,(Ap.new k3 0 0).symm⟩,pP2,pR2,b2⟩
  | 9,hun,_,_=>exact absurd hun (by simp)
  | 10,hun,_,_=>exact absurd hun (by simp)
  | 11,hun,ho,hall =>
   obtain rfl:d2=false:=by simpa using hun
   obtain rfl:e2=true:=by
    simp only [List.getElem?_toArray,List.getElem?_cons_zero,List.getElem?_cons_succ,Option.some.injEq] at ho
    subst ho
    have:=hall { on:=8,ground:=Ground.data } (by simp) rfl
    simpa using this
   obtain ⟨rfl,qo⟩:=k2.2.1 rfl rfl
   have hn2:n=(cn1 e0+cn1 d0)+(cn1 e1+cn1 d1)+(cn1 true+cn1 true)+(cn1 e3+cn1 d3):=by simp only [cn1] at hn ⊢;simp at hn ⊢;omega
   refine wpOp_step (o:=⟨some 14,_,_,_,_,_⟩) rfl (fun K' hK'=>?_)
   refine Xi rfl _ _ 36 rfl w.heap.size 3 i0 (.int .i64 0) 1 8 Tryz.underlying36 hi hz0 hz1 hz2 rfl (by decide) _ _ _ rfl qo ⟨b2,o2,none⟩ 2 c2 (m.2.2.1.map (Value.int .i64)) rfl (by simp [l2]) (Wf (j2.below bw)) (WT _) (by unfold maxLen;omega) (by omega) hsz ?_
   intro u1 U1 qn gr hat
   have qn2:U1.ownsRow w.heap.size 3 1 u1 (m.2.2.1).length (m.2.2.1.map (Value.int .i64)):=by simpa [l2] using qn
   have pP2:=pP.kept gr (Zk qo pP (by decide))
   have pR2:=pR.kept gr (Zk qo pR (by decide))
   have b2:=bw.grown gr hsz (fun x hx=>(qo.lt x hx).1)
   refine hK' _ _ ⟨⟨by simpa using pP2.cell 0,by simpa using pP2.cell 1,by simpa using pP2.cell 2,by simpa using pP2.cell 3⟩,e0,e1,true,e3,d0,d1,true,d3,x0,x1,x2,x3,y0,y1,u1,y3,v0,v1,u1,v3,hn2,by simp,by simp [Act.put],⟨k0.kept gr a02,k1.kept gr a12,⟨(fun _=>⟨rfl,rfl,qn2⟩),(fun h=>by cases h),(fun h=>by cases h)⟩,k3.kept gr a23.symm⟩,⟨a01,Ap.grown k0 a02 hat,a03,Ap.grown k1 a12 hat,a13,(Ap.grown k3 a23.symm hat).symm⟩,pP2,pR2,b2⟩
  | 12,hun,ho,_ =>
   obtain rfl:e3=false:=by simpa using hun
   obtain ⟨rfl,_⟩:=k3.2.2 rfl
   have pP2:=Zl (.cells #[] 3) pP
   have pR2:=Zl (.cells #[] 3) pR
   have b2:=bw.alloc hsz (.cells #[] 3)
   have hn2:n=(cn1 e0+cn1 d0)+(cn1 e1+cn1 d1)+(cn1 e2+cn1 d2)+(cn1 true+cn1 false):=by simp only [cn1] at hn ⊢;simp at hn ⊢;omega
   refine wpOp_step (o:=⟨some 15,_,_,_,_,_⟩) rfl (fun K' hK'=>?_)
   go_simp
   refine hK' _ _ ⟨⟨by simpa using pP2.cell 0,by simpa using pP2.cell 1,by simpa using pP2.cell 2,by simpa using pP2.cell 3⟩,e0,e1,e2,true,d0,d1,d2,false,x0,x1,x2,.slice (some ⟨W.heap.size,0,none⟩) 0 0,y0,y1,y2,y3,v0,v1,v2,.slice (some ⟨W.heap.size,0,none⟩) 0 0,hn2,by simp,by simp [Act.put],⟨k0.new _,k1.new _,k2.new _,⟨(fun h=>by cases h),(fun _ _=>⟨rfl,WD W 3 1 w.heap.size hsz⟩),(fun h=>by cases h)⟩⟩,⟨a01,a02,Ap.new k0 0 0,a12,Ap.new k1 0 0,Ap.new k2 0 0⟩,pP2,pR2,b2⟩
  | 13,hun,_,_=>exact absurd hun (by simp)
  | 14,hun,_,_=>exact absurd hun (by simp)
  | 15,hun,ho,hall =>
   obtain rfl:d3=false:=by simpa using hun
   obtain rfl:e3=true:=by
    simp only [List.getElem?_toArray,List.getElem?_cons_zero,List.getElem?_cons_succ,Option.some.injEq] at ho
    subst ho
    have:=hall { on:=12,ground:=Ground.data } (by simp) rfl
    simpa using this
   obtain ⟨rfl,qo⟩:=k3.2.1 rfl rfl
   have hn2:n=(cn1 e0+cn1 d0)+(cn1 e1+cn1 d1)+(cn1 e2+cn1 d2)+(cn1 true+cn1 true):=by simp only [cn1] at hn ⊢;simp at hn ⊢;omega
   refine wpOp_step (o:=⟨some 18,_,_,_,_,_⟩) rfl (fun K' hK'=>?_)
   refine Xi rfl _ _ 36 rfl w.heap.size 3 i0 (.int .i64 0) 1 8 Tryz.underlying36 hi hz0 hz1 hz2 rfl (by decide) _ _ _ rfl qo ⟨b3,o3,none⟩ 6 c3 (m.2.2.2.map (Value.int .i64)) rfl (by simp [l3]) (Wf (j3.below bw)) (WT _) (by unfold maxLen;omega) (by omega) hsz ?_
   intro u1 U1 qn gr hat
   have qn2:U1.ownsRow w.heap.size 3 1 u1 (m.2.2.2).length (m.2.2.2.map (Value.int .i64)):=by simpa [l3] using qn
   have pP2:=pP.kept gr (Zk qo pP (by decide))
   have pR2:=pR.kept gr (Zk qo pR (by decide))
   have b2:=bw.grown gr hsz (fun x hx=>(qo.lt x hx).1)
   refine hK' _ _ ⟨⟨by simpa using pP2.cell 0,by simpa using pP2.cell 1,by simpa using pP2.cell 2,by simpa using pP2.cell 3⟩,e0,e1,e2,true,d0,d1,d2,true,x0,x1,x2,x3,y0,y1,y2,u1,v0,v1,v2,u1,hn2,by simp,by simp [Act.put],⟨k0.kept gr a03,k1.kept gr a13,k2.kept gr a23,⟨(fun _=>⟨rfl,rfl,qn2⟩),(fun h=>by cases h),(fun h=>by cases h)⟩⟩,⟨a01,a02,Ap.grown k0 a03 hat,a12,Ap.grown k1 a13 hat,Ap.grown k2 a23 hat⟩,pP2,pR2,b2⟩
  | 16,_,ho,hall =>
   exfalso
   simp only [List.getElem?_toArray,List.getElem?_cons_zero,List.getElem?_cons_succ,Option.some.injEq] at ho
   subst ho
   have h0:=hall { on:=3,ground:=Ground.data } (by simp) rfl
   have h1:=hall { on:=7,ground:=Ground.data } (by simp) rfl
   have h2:=hall { on:=11,ground:=Ground.data } (by simp) rfl
   have h3:=hall { on:=15,ground:=Ground.data } (by simp) rfl
   simp at h0 h1 h2 h3
   subst h0 h1 h2 h3
   obtain ⟨rfl,_⟩:=k0.1 rfl
   obtain ⟨rfl,_⟩:=k1.1 rfl
   obtain ⟨rfl,_⟩:=k2.1 rfl
   obtain ⟨rfl,_⟩:=k3.1 rfl
   simp [cn1] at hn
  | 17,_,ho,hall =>
   exfalso
   simp only [List.getElem?_toArray,List.getElem?_cons_zero,List.getElem?_cons_succ,Option.some.injEq] at ho
   subst ho
   have h0:=hall { on:=16,ground:=Ground.data } (by simp) rfl
   simp at h0
  | (k+18),_,ho,_=>exact absurd ho (by simp)
end Go.Proofs.YtgmhhegckcionaaGreatDoor
