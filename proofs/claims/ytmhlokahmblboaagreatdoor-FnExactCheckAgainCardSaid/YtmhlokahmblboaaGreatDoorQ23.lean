/-
  Joined: VmDraw, BugPl, MrgA, Put.
-/
import Derived.Maps.AppendAt
import Derived.Laws.RangeString
import Derived.Laws.RangeAny
import Derived.Laws.Bits
import Derived.Lib.FieldsP
import Derived.Deep.Cut
import Derived.Test.YtmhlokahmblboaaGreatDoorQ15

namespace Go.Proofs.YtmhlokahmblboaaGreatDoor
set_option maxRecDepth 100000
set_option maxHeartbeats 16000000
open Go.RowKit
set_option linter.unusedVariables false
set_option linter.unusedSimpArgs false

theorem ZI.lowerB {B B':Nat} {w:World} {s:S4} {m:V4} (h:ZI w B s m) (hB:B'≤B):ZI w B' s m:=⟨⟨WG h.1.1 hB,WG h.1.2.1 hB,WG h.1.2.2.1 hB,WG h.1.2.2.2 hB⟩,h.2⟩
theorem ZP:Ze ZD=true:=by decide
theorem SQ {P:Program} {ops:Array Oper} {o:Oper} {a:Act} {w:World} {K:Act→World→Prop} {Q:Exit→Act→World→Prop} {E:Prop} (hgd:o.guard=none) (ty:TypeId) (x y:Operand) (ho:o.op=.store ty x y) (g:Nat) (vs:List Value) (hx:a.eval x=.pointer (some ⟨g,0,none⟩)) (hy:a.eval y=.agg vs.toArray) {t:Nat} {cs:List Value} (hB:Blk w g t cs)
  (hi:(P.info? ty).map (·.size)=some vs.length) (hl:cs.length=vs.length) (h1:vs.all (·.oneCell')=true)
  (h:∀ w',Hid (Blk w' g t vs)→w.grownBy w' (some g)→K (a.put o.dst undef) w'):if Region.wanted o (yielded ops a.tmps)=true then Oper.wp P o a w K Q else E:=by
 have hw:Region.wanted o (yielded ops a.tmps)=true:=by simp [Region.wanted,hgd]
 rw [if_pos hw]
 exact wp_store_row ty x y ho g vs.toArray hx hy t cs.toArray hB (by simpa using hi) (by simpa using hl) (by simpa using h1) (h _ (Uv vs hB) (Wu _ _ _))


def ltB (a b:I3):Bool:=decide (a.1<b.1∨(a.1=b.1∧(a.2.1<b.2.1∨(a.2.1=b.2.1∧a.2.2<b.2.2))))
theorem S1 {a b:I3}:ltB a b=true↔a.1<b.1∨(a.1=b.1∧(a.2.1<b.2.1∨(a.2.1=b.2.1∧a.2.2<b.2.2))):=by simp [ltB]
theorem Vz (a:I3):ltB a a=false:=by
 cases h:ltB a a
 ·rfl
 rw [S1] at h;omega
theorem Vm {a b c:I3} (h:ltB a b=true) (k:ltB b c=true):ltB a c=true:=by
 rw [S1] at *;omega
theorem Q6 {a b:I3} (h:ltB a b=true):ltB b a=false:=by
 cases k:ltB b a
 ·rfl
 rw [S1] at h k;omega
theorem WF {a b:I3} (h:ltB a b=false) (k:ltB b a=false):a=b:=by
 obtain ⟨a0,a1,a2⟩:=a
 obtain ⟨b0,b1,b2⟩:=b
 have h':¬ ltB (a0,a1,a2) (b0,b1,b2)=true:=by simp [h]
 have k':¬ ltB (b0,b1,b2) (a0,a1,a2)=true:=by simp [k]
 rw [S1] at h' k'
 simp only at h' k'
 have e0:a0=b0:=by omega
 have e1:a1=b1:=by omega
 have e2:a2=b2:=by omega
 rw [e0,e1,e2]

def YN (l:List I3):Prop:=l.Pairwise fun a b=>ltB a b=true
theorem YN.same:∀ {l k:List I3},YN l→YN k→(∀ x,x ∈ l↔x ∈ k)→l=k
 | [],[],_,_,_=>rfl
 | [],b::k,_,_,h=>by have:=(h b).2 (by simp);simp at this
 | a::l,[],_,_,h=>by have:=(h a).1 (by simp);simp at this
 | a::l,b::k,hl,hk,h=>by
  have hl':=List.pairwise_cons.1 hl
  have hk':=List.pairwise_cons.1 hk
  have e:a=b:=by
   rcases List.mem_cons.1 ((h a).1 (by simp)) with e | e
   ·exact e
   rcases List.mem_cons.1 ((h b).2 (by simp)) with e' | e'
   ·exact e'.symm
   have h1:=hk'.1 a e
   have h2:=hl'.1 b e'
   rw [Q6 h1] at h2
   cases h2
  subst e
  rw [YN.same hl'.2 hk'.2 (fun x=>?_)]
  constructor
  ·intro hx
   rcases List.mem_cons.1 ((h x).1 (List.mem_cons_of_mem _ hx)) with e | e
   ·subst e
    have:=hl'.1 x hx
    rw [Vz] at this
    cases this
   exact e
  intro hx
  rcases List.mem_cons.1 ((h x).2 (List.mem_cons_of_mem _ hx)) with e | e
  ·subst e
   have:=hk'.1 x hx
   rw [Vz] at this
   cases this
  exact e

def YC:List I3→I3→List I3
 | [],b=>[b]
 | x::xs,b=>if ltB x b then x::YC xs b else if x=b then x::xs else b::x::xs
theorem Wn {x b:I3}:∀ {l:List I3},x ∈ YC l b↔x ∈ l∨x=b
 | []=>by simp [YC]
 | y::l=>by
  have ih:=Wn (x:=x) (b:=b) (l:=l)
  unfold YC
  split
  ·simp [ih,or_assoc]
  split
  ·rename_i h
   subst h
   simp
   intro e
   exact .inl e
  simp
  constructor
  ·rintro (h | h | h)
   ·exact .inr h
   ·exact .inl (.inl h)
   exact .inl (.inr h)
  rintro ((h | h) | h)
  ·exact .inr (.inl h)
  ·exact .inr (.inr h)
  exact .inl h
theorem YN.put {b:I3}:∀ {l:List I3},YN l→YN (YC l b)
 | [],_=>by simp [YC,YN]
 | y::l,h=>by
  have h':=List.pairwise_cons.1 h
  unfold YC
  split
  ·rename_i hy
   refine List.pairwise_cons.2 ⟨fun z hz=>?_,YN.put h'.2⟩
   rcases Wn.1 hz with e | e
   ·exact h'.1 z e
   rw [e];exact hy
  rename_i hy
  split
  ·exact h
  rename_i hne
  have hby:ltB b y=true:=by
   cases k:ltB b y
   ·exact absurd (WF (by simpa using hy) k) hne
   rfl
  refine List.pairwise_cons.2 ⟨fun z hz=>?_,h⟩
  rcases List.mem_cons.1 hz with e | e
  ·rw [e];exact hby
  exact Vm hby (h'.1 z e)
def putAll (out l:List I3):List I3:=l.foldl YC out
theorem VA {x:I3}:∀ {l out:List I3},x ∈ putAll out l↔x ∈ out∨x ∈ l
 | [],out=>by simp [putAll]
 | y::l,out=>by
  have ih:=VA (x:=x) (l:=l) (out:=YC out y)
  unfold putAll at *
  rw [List.foldl_cons,ih,Wn]
  simp [or_assoc]
theorem YN.putAll {l:List I3}:∀ {out:List I3},YN out→YN (putAll out l):=by
 induction l with
 | nil=>intro out h;exact h
 | cons y l ih=>intro out h;exact ih h.put
def ZG (a b:List I3):List I3:=putAll (putAll [] a) b
theorem Xk (a b:List I3):YN (ZG a b):=YN.putAll (YN.putAll List.Pairwise.nil)
theorem Xc {x:I3} {a b:List I3}:x ∈ ZG a b↔x ∈ a∨x ∈ b:=by
 unfold ZG
 rw [VA,VA]
 simp
theorem Tu (l:List I3) (b:I3):(YC l b).length≤l.length+1:=by
 induction l with
 | nil=>simp [YC]
 | cons y l ih =>
  unfold YC
  split
  ·simp;omega
  split<;>simp
theorem X0:∀ (l out:List I3),(putAll out l).length≤out.length+l.length
 | [],out=>by simp [putAll]
 | y::l,out=>by
  have:=X0 l (YC out y)
  have h2:=Tu out y
  unfold putAll at *
  simp only [List.foldl_cons,List.length_cons]
  omega
theorem M5 (a b:List I3):(ZG a b).length≤a.length+b.length:=by
 have h1:=X0 a []
 have h2:=X0 b (putAll [] a)
 simp at h1
 unfold ZG
 omega
def ZK:List I3→List I3
 | []=>[]
 | [x]=>[x]
 | x::y::l=>if x=y then ZK (y::l) else x::ZK (y::l)
theorem RM:∀ (x:I3) (l:List I3),∃ t,ZK (x::l)=x::t
 | x,[]=>⟨[],rfl⟩
 | x,y::l=>by
  unfold ZK
  split
  ·rename_i h
   subst h
   exact RM x l
  exact ⟨_,rfl⟩
theorem TT {z:I3}:∀ {l:List I3},z ∈ ZK l↔z ∈ l
 | []=>by simp [ZK]
 | [x]=>by simp [ZK]
 | x::y::l=>by
  have ih:=TT (z:=z) (l:=y::l)
  unfold ZK
  split
  ·rename_i h
   subst h
   rw [ih]
   simp
  simp only [List.mem_cons] at ih ⊢
  rw [ih]
theorem Sw:∀ {l:List I3},(l.Pairwise fun a b=>ltB b a=false)→YN (ZK l)
 | [],_=>List.Pairwise.nil
 | [x],_=>by simp [ZK,YN]
 | x::y::l,h=>by
  have h':=List.pairwise_cons.1 h
  have ih:=Sw h'.2
  unfold ZK
  split
  ·exact ih
  rename_i hne
  refine List.pairwise_cons.2 ⟨fun z hz=>?_,ih⟩
  have hz':=TT.1 hz
  have hxy:ltB x y=true:=by
   cases k:ltB x y
   ·exact absurd (WF k (h'.1 y (by simp))) hne
   rfl
  rcases List.mem_cons.1 hz' with e | e
  ·rw [e];exact hxy
  have h2:=(List.pairwise_cons.1 h'.2).1 z e
  cases k:ltB x z
  ·have hzx:=h'.1 z hz'
   have e2:=WF k hzx
   subst e2
   rw [h2] at hxy
   cases hxy
  rfl
theorem M8 {a b l:List I3} (hs:l.Pairwise fun a b=>ltB b a=false) (hm:∀ x,x ∈ l↔x ∈ a∨x ∈ b):ZK l=ZG a b:=
 (Sw hs).same (Xk a b) fun x=>by rw [TT,hm,Xc]


theorem UB (x y:I3) (w:World):Calls Tryz.prog 196 #[x.val,y.val] w fun e w'=>e=.returned (.bool (ltB x y))∧Below w.heap.size w w':=by
 obtain ⟨a0,a1,a2⟩:=x
 obtain ⟨b0,b1,b2⟩:=y
 unfold I3.val
 by_cases h0:a0=b0
 ·subst h0
  by_cases h1:a1=b1
  ·subst h1
   have e:ltB (a0,a1,a2) (a0,a1,b2)=decide (a2<b2):=by simp [ltB]
   rw [e]
   clear e
   go_enter Tryz.func196,Tryz.ntmps196
   go_wp2
   go_ret
   exact ⟨rfl,by go_grown⟩
  have e:ltB (a0,a1,a2) (a0,b1,b2)=decide (a1<b1):=by simp [ltB,h1]
  rw [e]
  clear e
  go_enter Tryz.func196,Tryz.ntmps196
  go_wp2
  go_ret
  exact ⟨rfl,by go_grown⟩
 have e:ltB (a0,a1,a2) (b0,b1,b2)=decide (a0<b0):=by simp [ltB,h0]
 rw [e]
 clear e
 go_enter Tryz.func196,Tryz.ntmps196
 go_wp2
 go_ret
 exact ⟨rfl,by go_grown⟩

def Wl:List I3→I3→Nat
 | [],_=>0
 | x::xs,b=>if ltB x b then Wl xs b+1 else 0
theorem NP:∀ (xs:List I3) (b:I3),Wl xs b≤xs.length
 | [],_=>Nat.le_refl _
 | x::xs,b=>by
  have:=NP xs b
  unfold Wl
  split<;>simp<;>omega
theorem Q2:∀ (xs:List I3) (b:I3) (k:Nat),k<Wl xs b→ltB (xs.getD k (0,0,0)) b=true
 | [],_,k,h=>by simp [Wl] at h
 | x::xs,b,k,h=>by
  unfold Wl at h
  split at h
  ·rename_i hx
   match k,h with
   | 0,_=>simpa using hx
   | k+1,h=>rw [List.getD_cons_succ];exact Q2 xs b k (by omega)
  omega
theorem NQ:∀ (xs:List I3) (b:I3),Wl xs b<xs.length→ltB (xs.getD (Wl xs b) (0,0,0)) b=false
 | [],_,h=>by simp [Wl] at h
 | x::xs,b,h=>by
  unfold Wl at h ⊢
  split
  ·rename_i hx
   rw [if_pos hx] at h
   rw [List.getD_cons_succ]
   exact NQ xs b (by simpa using h)
  rename_i hx
  simpa using hx
theorem Ph:∀ (xs:List I3) (b:I3),YC xs b=if Wl xs b<xs.length∧xs.getD (Wl xs b) (0,0,0)=b then xs else (xs.take (Wl xs b)++[b])++xs.drop (Wl xs b)
 | [],b=>by simp [YC,Wl]
 | x::xs,b=>by
  have ih:=Ph xs b
  unfold YC Wl
  split
  ·rename_i hx
   rw [ih]
   simp only [List.getD_cons_succ,List.length_cons,Nat.add_lt_add_iff_right,List.take_succ_cons,List.drop_succ_cons,List.cons_append]
   split<;>simp
  simp only [List.getD_cons_zero,List.length_cons,List.take_zero,List.drop_zero,List.nil_append,Nat.zero_lt_succ,true_and]
  split<;>simp

theorem WQ {w:World} {b off len cap hi:Nat} {xs:List I3} (h:Zj w (some ⟨b,off,none⟩) len cap xs) (h2:hi≤len) :
  (∀ W,(Instr.slice 29 (.slice (some ⟨b,off,none⟩) len cap) none (some (.int .i64 (hi:Int))) none).run Tryz.prog W=.ok (.slice (some ⟨b,off,none⟩) hi cap) W)∧Zj w (some ⟨b,off,none⟩) hi cap (xs.take hi):=by
 obtain ⟨hl,hlc,hcm,hf,hcase⟩:=h
 have hhc:(hi:Int)≤(cap:Int):=by omega
 refine ⟨fun W=>?_,by rw [List.length_take];omega,by omega,by omega,fun x hx=>hf x (List.mem_of_mem_take hx),?_⟩
 ·go_simp
 rcases hcase with h0 | ⟨b',off',he,hb,hc⟩
 ·exact .inl (by omega)
 cases he
 refine .inr ⟨b,off,rfl,hb,fun t ht=>?_⟩
 have:=hc t (by omega)
 have e:(xs.take hi).getD t (0,0,0)=xs.getD t (0,0,0):=by simp [List.getD,List.getElem?_take,ht]
 rw [e]
 exact this
theorem Hx {w:World} {b off len cap lo:Nat} {xs:List I3} (h:Zj w (some ⟨b,off,none⟩) len cap xs) (h1:lo≤len) :
  ∃ o2,(∀ W,(Instr.slice 29 (.slice (some ⟨b,off,none⟩) len cap) (some (.int .i64 (lo:Int))) none none).run Tryz.prog W=.ok (.slice (some ⟨b,o2,none⟩) (len - lo) (cap - lo)) W)∧Zj w (some ⟨b,o2,none⟩) (len - lo) (cap - lo) (xs.drop lo):=by
 obtain ⟨hl,hlc,hcm,hf,hcase⟩:=h
 have hlh:(lo:Int)≤(len:Int):=by omega
 by_cases hz:cap - lo=0
 ·refine ⟨off,fun W=>?_,by rw [List.length_drop];omega,by omega,by omega,fun x hx=>hf x (List.mem_of_mem_drop hx),.inl (by omega)⟩
  go_simp
  omega
 refine ⟨off+lo*3,fun W=>?_,by rw [List.length_drop];omega,by omega,by omega,fun x hx=>hf x (List.mem_of_mem_drop hx),?_⟩
 ·go_simp
  omega
 rcases hcase with h0 | ⟨b',off',he,hb,hc⟩
 ·exact .inl (by omega)
 cases he
 refine .inr ⟨b,off+lo*3,rfl,hb,fun t ht=>?_⟩
 have:=hc (lo+t) (by omega)
 have e:(xs.drop lo).getD t (0,0,0)=xs.getD (lo+t) (0,0,0):=by simp [List.getD]
 rw [e,show off+lo*3+t*3=off+(lo+t)*3 by omega]
 exact this
theorem ZR {w:World} {b off len cap:Nat} {xs:List I3} (h:Zj w (some ⟨b,off,none⟩) len cap xs):∀ j u,(Zk xs)[j]?=some u→w.cell? ((⟨b,off,none⟩:Addr).add j)=some u:=by
 intro j u hj
 obtain ⟨hl,_,_,_,hcase⟩:=h
 have hjl:j<xs.length*3:=by
  have:=(List.getElem?_eq_some_iff.1 hj).1
  rwa [Zr] at this
 have hA:(⟨b,off,none⟩:Addr).add j=⟨b,off+j,none⟩:=by unfold Addr.add;split<;>simp_all
 rw [hA]
 rcases hcase with h0 | ⟨b',off',he,hb,hc⟩
 ·omega
 cases he
 have hq:j / 3<xs.length:=by omega
 obtain ⟨f0,f1,f2⟩:=SY hq
 obtain ⟨c0,c1,c2⟩:=hc (j / 3) (by omega)
 have hr:j % 3=0∨j % 3=1∨j % 3=2:=by omega
 rcases hr with hr | hr | hr
 ·have e:j / 3*3=j:=by omega
  rw [e] at f0
  rw [f0] at hj
  cases hj
  rw [show off+j=off+j / 3*3 by omega]
  exact c0
 ·have e:j / 3*3+1=j:=by omega
  rw [e] at f1
  rw [f1] at hj
  cases hj
  rw [show off+j=off+j / 3*3+1 by omega]
  exact c1
 have e:j / 3*3+2=j:=by omega
 rw [e] at f2
 rw [f2] at hj
 cases hj
 rw [show off+j=off+j / 3*3+2 by omega]
 exact c2
theorem ZY (xs:List I3):∀ u ∈ Zk xs,u.oneCell'=true:=by
 intro u hu
 obtain ⟨x,hx,hu⟩:=List.mem_flatMap.1 hu
 unfold I3.cells at hu
 simp at hu
 rcases hu with rfl | rfl | rfl<;>rfl
theorem Z2 (xs ys:List I3):Zk (xs++ys)=Zk xs++Zk ys:=by simp [Zk]


theorem Zg {w w':World} {row:Option Nat} (g:w.grownBy w' row) {p:Addr} {v:Value} (hc:w.cell? p=some v) (hne:some p.block≠row):w'.cell? p=some v:=by
 have hl:=World.block_lt_of_cell? _ _ hc
 rw [← hc]
 unfold World.cell?
 rw [g.block p.block hl hne]
theorem ZM {P:Program} {ops:Array Oper} {o:Oper} {a:Act} {w:World} {K:Act→World→Prop} {Q:Exit→Act→World→Prop} {E:Prop}
  (hg:o.guard=none) (s x:Operand) (t:TypeId) (hop:o.op=Op.call { callee:=Callee.builtin Builtin.append,args:=#[s,x],argTypes:=#[t,t] })
  (base:Nat) (e:TypeId) (i:TypeInfo) (z:Value) (size bytes:Nat) (h1:P.underlying t=some (.slice e)) (h2:P.info? e=some i) (h3:i.zero=some z) (h4:i.size=size) (h5:i.bytes=bytes) (h6:z.cells.size=size) (h7:0<size)
  (v:Value) (n:Nat) (olds:List Value) (hs:a.eval s=v) (hown:w.ownsRow base e size v n olds)
  (ad:Addr) (m c:Nat) (news:List Value) (hx:a.eval x=.slice (some ad) m c) (hn:news.length=m*size) (hc:∀ j u,news[j]?=some u→w.cell? (ad.add j)=some u) (h1c:∀ u ∈ news,u.oneCell'=true)
  (b1:n+m≤maxLen) (b2:(n+m)*bytes≤140737488355328) (hbw:base≤w.heap.size)
  (hK:∀ v' w',w'.ownsRow base e size v' (n+m) (olds++news)→w.grownBy w' v.ownBlock→(v'.ownBlock=v.ownBlock∨v'.ownBlock=some w.heap.size)→K (a.put o.dst v') w') :
  if Region.wanted o (yielded ops a.tmps)=true then Oper.wp P o a w K Q else E:=by
 have hw:Region.wanted o (yielded ops a.tmps)=true:=by simp [Region.wanted,hg]
 rw [if_pos hw]
 obtain ⟨v',w',hrun,r1,r2,_,r4⟩:=run_append_own_at (P:=P) (w:=w) base t o.type e i z size bytes h1 h2 h3 h4 h5 h6 h7 v n olds hown ad m c news hn hc h1c b1 b2 hbw
 subst hs
 unfold Oper.wp
 simp [execOp,hop,resolve,invoke,builtin,hx,hrun,Result.andThen]
 exact hK v' w' r1 r2 r4
theorem Xd (w:World) (t s B:Nat) (hB:B≤w.heap.size):(w.alloc (.cells #[] t)).ownsRow B t s (.slice (some ⟨w.heap.size,0,none⟩) 0 0) 0 []:=World.ownsRow_lit w #[] 0 hB (by unfold maxLen;omega) (by simp)
theorem YX {w:World} {B B' e s n:Nat} {v:Value} {cs:List Value} (h:w.ownsRow B e s v n cs) (hB:B'≤B):w.ownsRow B' e s v n cs:=by
 refine ⟨h.1,?_⟩
 rcases h.2 with h0 | ⟨g,cap,cur,hv,hg,rest⟩
 ·exact .inl h0
 exact .inr ⟨g,cap,cur,hv,by omega,rest⟩
theorem Ms {w:World} {G:Nat} {a b c:Value} (h0:w.cell? ⟨G,0,none⟩=some a) (h1:w.cell? ⟨G,1,none⟩=some b) (h2:w.cell? ⟨G,2,none⟩=some c):∀ j u,[a,b,c][j]?=some u→w.cell? ((⟨G,0,none⟩:Addr).add j)=some u:=by
 intro j u hj
 match j,hj with
 | 0,hj=>simp at hj;subst hj;simpa [Addr.add] using h0
 | 1,hj=>simp at hj;subst hj;simpa [Addr.add] using h1
 | 2,hj=>simp at hj;subst hj;simpa [Addr.add] using h2
 | (j+3),hj=>simp at hj
theorem Um (a b c:Int):∀ u ∈ [Value.int .i64 a,Value.int .i64 b,Value.int .i64 c],u.oneCell'=true:=by
 intro u hu
 simp at hu
 rcases hu with rfl | rfl | rfl<;>rfl
theorem XZ {w:World} {B e s n:Nat} {v:Value} {cs:List Value} (h:w.ownsRow B e s v n cs) (hn:0<n):∃ g c,v=.slice (some ⟨g,0,none⟩) n c:=by
 rcases h.2 with ⟨rfl,h0⟩ | ⟨g,cap,cur,hv,_⟩
 ·omega
 exact ⟨g,cap,hv⟩
theorem Uk (b off n cap:Nat) (xs:List I3) (y:I3) (w:World) (h:Zj w (some ⟨b,off,none⟩) n cap xs) (hn:n≤1000000) :
  Calls Tryz.prog 180 #[.slice (some ⟨b,off,none⟩) n cap,y.val] w fun e w'=>(∃ v,e=.returned v∧w'.ownsRow w.heap.size 90 3 v (YC xs y).length (Zk (YC xs y)))∧Below w.heap.size w w':=by
 obtain ⟨i0,hi,hz0,hz1,hz2⟩:=info_parts Y6
 have hl:=h.1
 have hle:=NP xs y
 have hyes:=Q2 xs y
 have hno:=NQ xs y
 obtain ⟨L,hL⟩:∃ L,L=Wl xs y:=⟨_,rfl⟩
 have hput:=Ph xs y
 rw [← hL] at hle hyes hno hput
 clear hL
 have HY:Hid (∀ k,k<L→ltB (xs.getD k (0,0,0)) y=true):=hyes
 have HN:Hid (L<xs.length→ltB (xs.getD L (0,0,0)) y=false):=hno
 have HPut:Hid (YC xs y=if L<xs.length∧xs.getD L (0,0,0)=y then xs else (xs.take L++[y])++xs.drop L):=hput
 clear hyes hno hput
 have kL:=fun x (W:World)=>UB x y W
 obtain ⟨y0,y1,y2⟩:=y
 unfold I3.val at *
 simp only at kL
 have bw:Below w.heap.size w (w.alloc (.cells #[.int .i64 y0,.int .i64 y1,.int .i64 y2] 90)):=by go_grown
 have c0:(w.alloc (.cells #[.int .i64 y0,.int .i64 y1,.int .i64 y2] 90)).cell? ⟨w.heap.size,0,none⟩=some (.int .i64 y0):=by simp [go_sem]
 have c1:(w.alloc (.cells #[.int .i64 y0,.int .i64 y1,.int .i64 y2] 90)).cell? ⟨w.heap.size,1,none⟩=some (.int .i64 y1):=by simp [go_sem]
 have c2:(w.alloc (.cells #[.int .i64 y0,.int .i64 y1,.int .i64 y2] 90)).cell? ⟨w.heap.size,2,none⟩=some (.int .i64 y2):=by simp [go_sem]
 have hszA:w.heap.size+1≤(w.alloc (.cells #[.int .i64 y0,.int .i64 y1,.int .i64 y2] 90)).heap.size:=by simp
 go_enter Tryz.func180,Tryz.ntmps180
 go_wp2_with fail
 generalize w.alloc (.cells #[.int .i64 y0,.int .i64 y1,.int .i64 y2] 90)=W0 at *
 go_loopw [5] (fun si wr=>∃ k:Nat,k≤L∧si=.int .i64 k∧Below w.heap.size w wr∧w.heap.size+1≤wr.heap.size∧wr.cell? ⟨w.heap.size,0,none⟩=some (.int .i64 y0)∧wr.cell? ⟨w.heap.size,1,none⟩=some (.int .i64 y1)∧wr.cell? ⟨w.heap.size,2,none⟩=some (.int .i64 y2)) (fun si _=>L - (intOf si).toNat)
 case atStart=>exact ⟨0,by omega,rfl,bw,hszA,c0,c1,c2⟩
 case round =>
  clear bw c0 c1 c2 hszA
  obtain ⟨k,hk,rfl,bw,hsz,c0,c1,c2⟩:=hrel
  have hX:=h.below bw
  have hkn:k≤n:=by omega
  obtain ⟨o2,rD,hD⟩:=Hx h hkn
  have rT:=(WQ hX hkn).1
  by_cases hlt:k<n
  ·have hki:(k:Int)<(n:Int):=by omega
   have hk0:(0:Int)≤(k:Int):=by omega
   have hX':=hX
   obtain ⟨_,_,_,_,hcase⟩:=hX'
   rcases hcase with h0 | ⟨b',off',he,hb,hc⟩
   ·omega
   cases he
   obtain ⟨d0,d1,d2⟩:=hc k hlt
   clear hc hb
   obtain ⟨x,hx⟩:∃ x,x=xs.getD k (0,0,0):=⟨_,rfl⟩
   rw [← hx] at d0 d1 d2
   have HX:Hid (x=xs.getD k (0,0,0)):=hx
   clear hx
   have kX:=kL x
   by_cases hkL:k<L
   ·rw [HX.out,HY.out k hkL,← HX.out] at kX
    clear rD rT hX
    obtain ⟨x0,x1,x2⟩:=x
    simp only at d0 d1 d2 kX
    go_wp2_with fail
    go_region_held3 (fun w'=>w'.cell? ⟨b,off+k*3,none⟩=some (.int .i64 x0)∧w'.cell? ⟨b,off+k*3+1,none⟩=some (.int .i64 x1)∧w'.cell? ⟨b,off+k*3+2,none⟩=some (.int .i64 x2)∧w'.cell? ⟨w.heap.size,0,none⟩=some (.int .i64 y0)∧w'.cell? ⟨w.heap.size,1,none⟩=some (.int .i64 y1)∧w'.cell? ⟨w.heap.size,2,none⟩=some (.int .i64 y2)) (first | (exact ⟨d0,d1,d2,c0,c1,c2⟩) | (refine ⟨?_,?_,?_,?_,?_,?_⟩<;>(apply Za (by assumption);assumption)) | go_keep)
     (first | (go_at_call 196;refine (kX _).mono ?_;rintro e w1 ⟨rfl,hb1⟩))
    have bw1:Below w.heap.size w w1:=Zb bw (Zb (by go_grown) hb1)
    have hsz1:w.heap.size+1≤w1.heap.size:=Nat.le_trans hsz (Nat.le_trans (Nat.le_refl _) hb1.size)
    have f0:=Za hb1 _ _ c0
    have f1:=Za hb1 _ _ c1
    have f2:=Za hb1 _ _ c2
    clear hb1
    go_wp2
    go_roundw
    case rel=>exact ⟨k+1,by omega,by go_num,bw1,hsz1,f0,f1,f2⟩
    case measure=>simp [intOf];omega
   obtain rfl:k=L:=by omega
   rw [HX.out,HN.out (by omega),← HX.out] at kX
   have HE:Hid (YC xs (y0,y1,y2)=if x=(y0,y1,y2) then xs else (xs.take k++[(y0,y1,y2)])++xs.drop k):=by
    have h9:=HPut.out
    rw [← HX.out] at h9
    have h8:k<xs.length:=by omega
    simp only [h8,true_and] at h9
    exact h9
   obtain ⟨x0,x1,x2⟩:=x
   simp only at d0 d1 d2 kX
   go_wp2_with fail
   go_region_held3 (fun w'=>w'.cell? ⟨b,off+k*3,none⟩=some (.int .i64 x0)∧w'.cell? ⟨b,off+k*3+1,none⟩=some (.int .i64 x1)∧w'.cell? ⟨b,off+k*3+2,none⟩=some (.int .i64 x2)∧w'.cell? ⟨w.heap.size,0,none⟩=some (.int .i64 y0)∧w'.cell? ⟨w.heap.size,1,none⟩=some (.int .i64 y1)∧w'.cell? ⟨w.heap.size,2,none⟩=some (.int .i64 y2)) (first | (exact ⟨d0,d1,d2,c0,c1,c2⟩) | (refine ⟨?_,?_,?_,?_,?_,?_⟩<;>(apply Za (by assumption);assumption)) | go_keep)
    (first | (go_at_call 196;refine (kX _).mono ?_;rintro e w1 ⟨rfl,hb1⟩))
   have bw1:Below w.heap.size w w1:=Zb bw (Zb (by go_grown) hb1)
   have hsz1:w.heap.size+1≤w1.heap.size:=Nat.le_trans hsz (Nat.le_trans (Nat.le_refl _) hb1.size)
   have f0:=Za hb1 _ _ c0
   have f1:=Za hb1 _ _ c1
   have f2:=Za hb1 _ _ c2
   have m0:=Za hb1 _ _ d0
   have m1:=Za hb1 _ _ d1
   have m2:=Za hb1 _ _ d2
   clear hb1 c0 c1 c2 d0 d1 d2 bw hsz hX
   have hX:=h.below bw1
   have bw:=bw1
   have hsz:=hsz1
   have c0:=f0
   have c1:=f1
   have c2:=f2
   have d0:=m0
   have d1:=m1
   have d2:=m2
   clear bw1 hsz1 f0 f1 f2 m0 m1 m2
   go_wp2_with fail
   by_cases hE:(x0,x1,x2)=(y0,y1,y2)
   ·cases hE
    have HQ:Hid (YC xs (y0,y1,y2)=xs):=by
     have h9:=HE.out
     rw [if_pos rfl] at h9
     exact h9
    have hxx0:(y0 == y0)=true:=by simp
    have hxx1:(y1 == y1)=true:=by simp
    have hxx2:(y2 == y2)=true:=by simp
    clear HE HPut HN kX rD rT
    go_quiet (fail)
    have hXd:=h.below (below_drewN bw nq)
    have bwd:=below_drewN bw nq
    have hszd:w.heap.size≤(w1.drewN nq).heap.size:=bwd.size
    generalize w1.drewN nq=UE at *
    clear c0 c1 c2 d0 d1 d2 bw hX hsz
    go_wp2_with (at_builtin;refine wpList_append_own _ rfl _ _ 29 rfl w.heap.size 90 i0 (.agg #[.int .i64 0,.int .i64 0,.int .i64 0]) 3 24 Tryz.underlying29 hi hz0 hz1 hz2 rfl (by decide) _ _ _ rfl (Xd UE 90 3 w.heap.size hszd) ⟨b,off,none⟩ n cap (Zk xs) rfl (by rw [Zr];omega) (ZR (hXd.below (by go_grown))) (ZY _) ?c3 ?c4 ?c5 ?_)
    case c3=>unfold maxLen;omega
    case c4=>omega
    case c5=>simp;omega
    intro v7 w7 hown7 hgrow7 _
    replace hown7:w7.ownsRow w.heap.size 90 3 v7 n (Zk xs):=by simpa using hown7
    have bw7:Below w.heap.size w w7:=(Zb bwd (show Below UE.heap.size UE (UE.alloc (.cells #[] 90)) by go_grown)).grown hgrow7 (by simp;omega) (fun g hg=>by simp [Value.ownBlock] at hg;omega)
    obtain ⟨g,c,rfl⟩:=XZ hown7 (by omega)
    have hQ:w7.ownsRow w.heap.size 90 3 (.slice (some ⟨g,0,none⟩) n c) (YC xs (y0,y1,y2)).length (Zk (YC xs (y0,y1,y2))):=by
     rw [HQ.out,hl]
     exact hown7
    clear hown7 hgrow7
    go_wp2
    go_ret
    exact ⟨⟨_,rfl,hQ⟩,bw7⟩
   have HP:Hid (∀ (v:Value) (W:World),W.ownsRow (w.heap.size+1) 90 3 v (0+k+1+(n - k)) (([]++Zk (xs.take k)++[.int .i64 y0,.int .i64 y1,.int .i64 y2])++Zk (xs.drop k))→W.ownsRow w.heap.size 90 3 v (YC xs (y0,y1,y2)).length (Zk (YC xs (y0,y1,y2)))):=by
    intro v W q
    have h9:=HE.out
    rw [if_neg hE] at h9
    have hlen:(YC xs (y0,y1,y2)).length=0+k+1+(n - k):=by rw [h9];simp;omega
    rw [hlen,h9,Z2,Z2]
    simpa [Zk,I3.cells] using YX q (by omega)
   have hcmp:(x0 == y0 && (x1 == y1 && x2 == y2))=false:=by
    cases hq:(x0 == y0 && (x1 == y1 && x2 == y2))
    ·rfl
    simp at hq;simp [hq] at hE
   have h3:x0≠y0∨(x0=y0∧x1≠y1)∨(x0=y0∧x1=y1∧x2≠y2):=by
    by_cases q0:x0=y0
    ·by_cases q1:x1=y1
     ·refine .inr (.inr ⟨q0,q1,fun q2=>hE ?_⟩)
      rw [q0,q1,q2]
     exact .inr (.inl ⟨q0,q1⟩)
    exact .inl q0
   clear HE HPut HN kX hcmp hE
   go_cut [31] from 6 (fun s31 W=>s31=.bool false∧∃ q,W=w1.drewN q)
   case first =>
    rcases h3 with t0 | ⟨rfl,t1⟩ | ⟨rfl,rfl,t2⟩
    ·have t0':(x0 == y0)=false:=by simp [t0]
     go_quiet (fail)
     go_wp2_with fail
     go_meet
     case rel=>exact ⟨rfl,nq,rfl⟩
    ·have t0':(x0 == x0)=true:=by simp
     have t1':(x1 == y1)=false:=by simp [t1]
     go_quiet (fail)
     go_wp2_with fail
     go_meet
     case rel=>exact ⟨rfl,nq,rfl⟩
    have t0':(x0 == x0)=true:=by simp
    have t1':(x1 == x1)=true:=by simp
    have t2':(x2 == y2)=false:=by simp [t2]
    go_quiet (fail)
    go_wp2_with fail
    go_meet
    case rel=>exact ⟨rfl,nq,rfl⟩
   obtain ⟨rfl,nq,rfl⟩:=hcut
   clear h3
   replace c0:(w1.drewN nq).cell? ⟨w.heap.size,0,none⟩=some (.int .i64 y0):=c0
   replace c1:(w1.drewN nq).cell? ⟨w.heap.size,1,none⟩=some (.int .i64 y1):=c1
   replace c2:(w1.drewN nq).cell? ⟨w.heap.size,2,none⟩=some (.int .i64 y2):=c2
   replace bw:=below_drewN bw nq
   replace hX:=h.below bw
   replace hsz:w.heap.size+1≤(w1.drewN nq).heap.size:=hsz
   generalize w1.drewN nq=UA at *
   go_wp2_with fail
   refine wp_region_held_drew (S:=(fun w'=>w'.cell? ⟨w.heap.size,0,none⟩=some (.int .i64 y0)∧w'.cell? ⟨w.heap.size,1,none⟩=some (.int .i64 y1)∧w'.cell? ⟨w.heap.size,2,none⟩=some (.int .i64 y2))) (by kernel_rfl) ⟨c0,c1,c2⟩ (fun hS0=>?_)
   refine tkm 1 36 (.slice (some ⟨b,off,none⟩) n cap) ?_
   refine tkm 2 37 (.int .i64 (k:Int)) ?_
   refine tkm 3 38 (.slice (some ⟨b,off,none⟩) k cap) ?_
   refine tkm 5 40 (.agg #[.int .i64 y0,.int .i64 y1,.int .i64 y2]) ?_
   refine tkm 8 43 (.slice (some ⟨b,off,none⟩) n cap) ?_
   refine tkm 9 44 (.int .i64 (k:Int)) ?_
   refine tkm 10 45 (.slice (some ⟨b,o2,none⟩) (n - k) (cap - k)) ?_
   refine wpAnyH_ready (rs:=[0,6]) (by kernel_rfl) (by simp) ?_
   refine AllReadyH.cons (o:=⟨some 35,_,_,_,_,_⟩) rfl (fun K hK=>?_) (AllReadyH.cons (o:=⟨some 41,_,_,_,_,_⟩) rfl (fun K hK=>?_) AllReadyH.nil)
   focus
    have q:=(Xd UA 90 3 (w.heap.size+1) hsz).drew
    have hal:Below UA.heap.size UA (UA.alloc (.cells #[] 90)).drew:=by go_grown
    replace c0:=Za hal _ _ c0
    replace c1:=Za hal _ _ c1
    replace c2:=Za hal _ _ c2
    replace bw:=Zb bw hal
    replace hX:=hX.below hal
    replace hsz:w.heap.size+1≤(UA.alloc (.cells #[] 90)).drew.heap.size:=Nat.le_trans hsz hal.size
    go_simp
    refine hK.out _ _ ⟨c0,c1,c2⟩ (fun hS1=>?_)
    clear hK hal
    generalize UA.heap.size=V1 at *
    generalize (UA.alloc (.cells #[] 90)).drew=U1 at *
    try simp only [Act.put,tka,tkb,tkc]
    refine wpAnyH_ready (rs:=[4,6]) (by kernel_rfl) (by simp) ?_
    refine AllReadyH.cons (o:=⟨some 39,_,_,_,_,_⟩) rfl (fun K hK=>?_) (AllReadyH.cons (o:=⟨some 41,_,_,_,_,_⟩) rfl (fun K hK=>?_) AllReadyH.nil)
    focus
     refine ZM rfl _ _ 29 rfl (w.heap.size+1) 90 i0 (.agg #[.int .i64 0,.int .i64 0,.int .i64 0]) 3 24 Tryz.underlying29 hi hz0 hz1 hz2 rfl (by decide) (.slice (some ⟨V1,0,none⟩) 0 0) 0 [] rfl q ⟨b,off,none⟩ k cap (Zk (xs.take k)) rfl (by rw [Zr,List.length_take];omega) (ZR (WQ hX hkn).2) (ZY _) (by unfold maxLen;omega) (by omega) hsz ?_
     intro v2 U2 q2 gr hob
     replace c0:=Zg gr c0 (fun e=>Nat.not_succ_le_self _ (q.lt _ e.symm).1)
     replace c1:=Zg gr c1 (fun e=>Nat.not_succ_le_self _ (q.lt _ e.symm).1)
     replace c2:=Zg gr c2 (fun e=>Nat.not_succ_le_self _ (q.lt _ e.symm).1)
     replace bw:=bw.grown gr bw.size (fun g hg=>by have:=(q.lt g hg).1;omega)
     replace hX:=h.below bw
     replace hsz:w.heap.size+1≤U2.heap.size:=Nat.le_trans hsz gr.size
     refine hK.out _ _ ⟨c0,c1,c2⟩ (fun hS2=>?_)
     clear hK q gr hob
     have q:=q2
     clear q2
     try simp only [Act.put,tka,tkb,tkc]
     refine tkr 6 41 (fun K hK=>?_)
     obtain ⟨G,hG⟩:∃ G,G=U2.heap.size:=⟨_,rfl⟩
     have e0:(U2.alloc (.cells #[.int .i64 y0,.int .i64 y1,.int .i64 y2] 90)).cell? ⟨G,0,none⟩=some (.int .i64 y0):=by subst hG;simp [go_sem]
     have e1:(U2.alloc (.cells #[.int .i64 y0,.int .i64 y1,.int .i64 y2] 90)).cell? ⟨G,1,none⟩=some (.int .i64 y1):=by subst hG;simp [go_sem]
     have e2:(U2.alloc (.cells #[.int .i64 y0,.int .i64 y1,.int .i64 y2] 90)).cell? ⟨G,2,none⟩=some (.int .i64 y2):=by subst hG;simp [go_sem]
     have hal:Below U2.heap.size U2 (U2.alloc (.cells #[.int .i64 y0,.int .i64 y1,.int .i64 y2] 90)):=by go_grown
     have hap:∀ g,Value.ownBlock v2=some g→g≠G:=fun g hg e=>by have:=(q.lt g hg).2;omega
     replace q:=Zz q hal
     replace c0:=Za hal _ _ c0
     replace c1:=Za hal _ _ c1
     replace c2:=Za hal _ _ c2
     replace bw:=Zb bw hal
     replace hX:=hX.below hal
     replace hsz:w.heap.size+1≤(U2.alloc (.cells #[.int .i64 y0,.int .i64 y1,.int .i64 y2] 90)).heap.size:=Nat.le_trans hsz hal.size
     go_simp
     rw [← hG]
     refine hK.out _ _ ⟨c0,c1,c2⟩ (fun hS3=>?_)
     clear hK hal
     clear hG
     generalize (U2.alloc (.cells #[.int .i64 y0,.int .i64 y1,.int .i64 y2] 90))=U3 at *
    rotate_left
    focus
     obtain ⟨G,hG⟩:∃ G,G=U1.heap.size:=⟨_,rfl⟩
     have e0:(U1.alloc (.cells #[.int .i64 y0,.int .i64 y1,.int .i64 y2] 90)).cell? ⟨G,0,none⟩=some (.int .i64 y0):=by subst hG;simp [go_sem]
     have e1:(U1.alloc (.cells #[.int .i64 y0,.int .i64 y1,.int .i64 y2] 90)).cell? ⟨G,1,none⟩=some (.int .i64 y1):=by subst hG;simp [go_sem]
     have e2:(U1.alloc (.cells #[.int .i64 y0,.int .i64 y1,.int .i64 y2] 90)).cell? ⟨G,2,none⟩=some (.int .i64 y2):=by subst hG;simp [go_sem]
     have hal:Below U1.heap.size U1 (U1.alloc (.cells #[.int .i64 y0,.int .i64 y1,.int .i64 y2] 90)):=by go_grown
     have hap:∀ g,Value.ownBlock (.slice (some ⟨V1,0,none⟩) 0 0)=some g→g≠G:=fun g hg e=>by have:=(q.lt g hg).2;omega
     replace q:=Zz q hal
     replace c0:=Za hal _ _ c0
     replace c1:=Za hal _ _ c1
     replace c2:=Za hal _ _ c2
     replace bw:=Zb bw hal
     replace hX:=hX.below hal
     replace hsz:w.heap.size+1≤(U1.alloc (.cells #[.int .i64 y0,.int .i64 y1,.int .i64 y2] 90)).heap.size:=Nat.le_trans hsz hal.size
     go_simp
     rw [← hG]
     refine hK.out _ _ ⟨c0,c1,c2⟩ (fun hS6=>?_)
     clear hK hal
     clear hG
     generalize (U1.alloc (.cells #[.int .i64 y0,.int .i64 y1,.int .i64 y2] 90))=U6 at *
     try simp only [Act.put,tka,tkb,tkc]
     refine tkr 4 39 (fun K hK=>?_)
     have hGl:=World.block_lt_of_cell? _ _ e0
     refine ZM rfl _ _ 29 rfl (w.heap.size+1) 90 i0 (.agg #[.int .i64 0,.int .i64 0,.int .i64 0]) 3 24 Tryz.underlying29 hi hz0 hz1 hz2 rfl (by decide) (.slice (some ⟨V1,0,none⟩) 0 0) 0 [] rfl q ⟨b,off,none⟩ k cap (Zk (xs.take k)) rfl (by rw [Zr,List.length_take];omega) (ZR (WQ hX hkn).2) (ZY _) (by unfold maxLen;omega) (by omega) hsz ?_
     intro v2 U7 q2 gr hob
     replace c0:=Zg gr c0 (fun e=>Nat.not_succ_le_self _ (q.lt _ e.symm).1)
     replace c1:=Zg gr c1 (fun e=>Nat.not_succ_le_self _ (q.lt _ e.symm).1)
     replace c2:=Zg gr c2 (fun e=>Nat.not_succ_le_self _ (q.lt _ e.symm).1)
     replace e0:=Zg gr e0 (fun e=>hap _ e.symm rfl)
     replace e1:=Zg gr e1 (fun e=>hap _ e.symm rfl)
     replace e2:=Zg gr e2 (fun e=>hap _ e.symm rfl)
     have hap2:∀ g,Value.ownBlock v2=some g→g≠G:=fun g hg e=>by
      rcases hob with hu | hu
      ·exact hap g (hu▸hg) e
      rw [hu] at hg
      simp at hg hGl
      omega
     clear hap hGl
     have hap:=hap2
     clear hap2
     replace bw:=bw.grown gr bw.size (fun g hg=>by have:=(q.lt g hg).1;omega)
     replace hX:=h.below bw
     replace hsz:w.heap.size+1≤U7.heap.size:=Nat.le_trans hsz gr.size
     refine hK.out _ _ ⟨c0,c1,c2⟩ (fun hS7=>?_)
     clear hK q gr hob
     have q:=q2
     clear q2
   rotate_left 2
   focus
    obtain ⟨G,hG⟩:∃ G,G=UA.heap.size:=⟨_,rfl⟩
    have e0:(UA.alloc (.cells #[.int .i64 y0,.int .i64 y1,.int .i64 y2] 90)).drew.cell? ⟨G,0,none⟩=some (.int .i64 y0):=by subst hG;simp [go_sem]
    have e1:(UA.alloc (.cells #[.int .i64 y0,.int .i64 y1,.int .i64 y2] 90)).drew.cell? ⟨G,1,none⟩=some (.int .i64 y1):=by subst hG;simp [go_sem]
    have e2:(UA.alloc (.cells #[.int .i64 y0,.int .i64 y1,.int .i64 y2] 90)).drew.cell? ⟨G,2,none⟩=some (.int .i64 y2):=by subst hG;simp [go_sem]
    have hal:Below UA.heap.size UA (UA.alloc (.cells #[.int .i64 y0,.int .i64 y1,.int .i64 y2] 90)).drew:=by go_grown
    replace c0:=Za hal _ _ c0
    replace c1:=Za hal _ _ c1
    replace c2:=Za hal _ _ c2
    replace bw:=Zb bw hal
    replace hX:=hX.below hal
    replace hsz:w.heap.size+1≤(UA.alloc (.cells #[.int .i64 y0,.int .i64 y1,.int .i64 y2] 90)).drew.heap.size:=Nat.le_trans hsz hal.size
    go_simp
    rw [← hG]
    refine hK.out _ _ ⟨c0,c1,c2⟩ (fun hS10=>?_)
    clear hK hal
    clear hG
    generalize (UA.alloc (.cells #[.int .i64 y0,.int .i64 y1,.int .i64 y2] 90)).drew=U10 at *
    try simp only [Act.put,tka,tkb,tkc]
    refine tkr 0 35 (fun K hK=>?_)
    have q:=(Xd U10 90 3 (w.heap.size+1) hsz)
    have hap:∀ g,(Value.slice (some ⟨U10.heap.size,0,none⟩) 0 0).ownBlock=some g→g≠G:=fun g hg e=>by have hGl:=World.block_lt_of_cell? _ _ e0;simp [Value.ownBlock] at hg;simp at hGl;omega
    have hal:Below U10.heap.size U10 (U10.alloc (.cells #[] 90)):=by go_grown
    replace e0:=Za hal _ _ e0
    replace e1:=Za hal _ _ e1
    replace e2:=Za hal _ _ e2
    replace c0:=Za hal _ _ c0
    replace c1:=Za hal _ _ c1
    replace c2:=Za hal _ _ c2
    replace bw:=Zb bw hal
    replace hX:=hX.below hal
    replace hsz:w.heap.size+1≤(U10.alloc (.cells #[] 90)).heap.size:=Nat.le_trans hsz hal.size
    go_simp
    refine hK.out _ _ ⟨c0,c1,c2⟩ (fun hS11=>?_)
    clear hK hal
    generalize U10.heap.size=V11 at *
    generalize (U10.alloc (.cells #[] 90))=U11 at *
    try simp only [Act.put,tka,tkb,tkc]
    refine tkr 4 39 (fun K hK=>?_)
    have hGl:=World.block_lt_of_cell? _ _ e0
    refine ZM rfl _ _ 29 rfl (w.heap.size+1) 90 i0 (.agg #[.int .i64 0,.int .i64 0,.int .i64 0]) 3 24 Tryz.underlying29 hi hz0 hz1 hz2 rfl (by decide) (.slice (some ⟨V11,0,none⟩) 0 0) 0 [] rfl q ⟨b,off,none⟩ k cap (Zk (xs.take k)) rfl (by rw [Zr,List.length_take];omega) (ZR (WQ hX hkn).2) (ZY _) (by unfold maxLen;omega) (by omega) hsz ?_
    intro v2 U12 q2 gr hob
    replace c0:=Zg gr c0 (fun e=>Nat.not_succ_le_self _ (q.lt _ e.symm).1)
    replace c1:=Zg gr c1 (fun e=>Nat.not_succ_le_self _ (q.lt _ e.symm).1)
    replace c2:=Zg gr c2 (fun e=>Nat.not_succ_le_self _ (q.lt _ e.symm).1)
    replace e0:=Zg gr e0 (fun e=>hap _ e.symm rfl)
    replace e1:=Zg gr e1 (fun e=>hap _ e.symm rfl)
    replace e2:=Zg gr e2 (fun e=>hap _ e.symm rfl)
    have hap2:∀ g,Value.ownBlock v2=some g→g≠G:=fun g hg e=>by
     rcases hob with hu | hu
     ·exact hap g (hu▸hg) e
     rw [hu] at hg
     simp at hg hGl
     omega
    clear hap hGl
    have hap:=hap2
    clear hap2
    replace bw:=bw.grown gr bw.size (fun g hg=>by have:=(q.lt g hg).1;omega)
    replace hX:=h.below bw
    replace hsz:w.heap.size+1≤U12.heap.size:=Nat.le_trans hsz gr.size
    refine hK.out _ _ ⟨c0,c1,c2⟩ (fun hS12=>?_)
    clear hK q gr hob
    have q:=q2
    clear q2
   all_goals
    try simp only [Act.put,tka,tkb,tkc]
    refine tkr 7 42 (fun K hK=>?_)
    refine ZM rfl _ _ 29 rfl (w.heap.size+1) 90 i0 (.agg #[.int .i64 0,.int .i64 0,.int .i64 0]) 3 24 Tryz.underlying29 hi hz0 hz1 hz2 rfl (by decide) v2 (0+k) ([]++Zk (xs.take k)) rfl q ⟨G,0,none⟩ 1 1 [.int .i64 y0,.int .i64 y1,.int .i64 y2] rfl rfl (Ms e0 e1 e2) (Um _ _ _) (by unfold maxLen;omega) (by omega) hsz ?_
    intro v4 U4 q2 gr hob
    replace c0:=Zg gr c0 (fun e=>Nat.not_succ_le_self _ (q.lt _ e.symm).1)
    replace c1:=Zg gr c1 (fun e=>Nat.not_succ_le_self _ (q.lt _ e.symm).1)
    replace c2:=Zg gr c2 (fun e=>Nat.not_succ_le_self _ (q.lt _ e.symm).1)
    replace bw:=bw.grown gr bw.size (fun g hg=>by have:=(q.lt g hg).1;omega)
    replace hX:=h.below bw
    replace hsz:w.heap.size+1≤U4.heap.size:=Nat.le_trans hsz gr.size
    refine hK.out _ _ ⟨c0,c1,c2⟩ (fun hS4=>?_)
    clear hK q gr hob
    have q:=q2
    clear q2
    clear e0 e1 e2 hap
    try simp only [Act.put,tka,tkb,tkc]
    refine tkr 11 46 (fun K hK=>?_)
    refine ZM rfl _ _ 29 rfl (w.heap.size+1) 90 i0 (.agg #[.int .i64 0,.int .i64 0,.int .i64 0]) 3 24 Tryz.underlying29 hi hz0 hz1 hz2 rfl (by decide) v4 (0+k+1) (([]++Zk (xs.take k))++[.int .i64 y0,.int .i64 y1,.int .i64 y2]) rfl q ⟨b,o2,none⟩ (n - k) (cap - k) (Zk (xs.drop k)) rfl (by rw [Zr,List.length_drop];omega) (ZR (hD.below bw)) (ZY _) (by unfold maxLen;omega) (by omega) hsz ?_
    intro v5 U5 q2 gr hob
    replace c0:=Zg gr c0 (fun e=>Nat.not_succ_le_self _ (q.lt _ e.symm).1)
    replace c1:=Zg gr c1 (fun e=>Nat.not_succ_le_self _ (q.lt _ e.symm).1)
    replace c2:=Zg gr c2 (fun e=>Nat.not_succ_le_self _ (q.lt _ e.symm).1)
    replace bw:=bw.grown gr bw.size (fun g hg=>by have:=(q.lt g hg).1;omega)
    replace hX:=h.below bw
    replace hsz:w.heap.size+1≤U5.heap.size:=Nat.le_trans hsz gr.size
    refine hK.out _ _ ⟨c0,c1,c2⟩ (fun hS5=>?_)
    clear hK q gr hob
    have q:=q2
    clear q2
    try simp only [Act.put,tka,tkb,tkc]
    refine tkm 12 4 v5 ?_
    refine wpAnyH_done (by kernel_rfl) ?_ _
    have hQ:=HP.out _ _ q
    obtain ⟨g,c,rfl⟩:=XZ q (by omega)
    clear q c0 c1 c2 rT rD
    go_wp2
    go_ret
    exact ⟨⟨_,rfl,hQ⟩,bw⟩
  obtain rfl:k=n:=by omega
  obtain rfl:k=L:=by omega
  have hkk:¬ ((k:Int)<(k:Int)):=by omega
  have hkb:decide ((k:Int)<(k:Int))=false:=by simp
  have HP:Hid (∀ (v:Value) (W:World),W.ownsRow (w.heap.size+1) 90 3 v (0+k+1+0) (([]++Zk (xs.take k)++[.int .i64 y0,.int .i64 y1,.int .i64 y2])++Zk (xs.drop k))→W.ownsRow w.heap.size 90 3 v (YC xs (y0,y1,y2)).length (Zk (YC xs (y0,y1,y2)))):=by
   intro v W q
   have h9:=HPut.out
   rw [if_neg (by omega)] at h9
   have hlen:(YC xs (y0,y1,y2)).length=0+k+1+0:=by rw [h9];simp;omega
   rw [hlen,h9,Z2,Z2]
   simpa [Zk,I3.cells] using YX q (by omega)
  clear HPut HN HY kL
  go_wp2_with fail
  go_quiet (fail)
  replace c0:(wr.drewN nq).cell? ⟨w.heap.size,0,none⟩=some (.int .i64 y0):=c0
  replace c1:(wr.drewN nq).cell? ⟨w.heap.size,1,none⟩=some (.int .i64 y1):=c1
  replace c2:(wr.drewN nq).cell? ⟨w.heap.size,2,none⟩=some (.int .i64 y2):=c2
  replace bw:=below_drewN bw nq
  replace hX:=h.below bw
  replace hsz:w.heap.size+1≤(wr.drewN nq).heap.size:=hsz
  generalize wr.drewN nq=UV at *
  go_wp2_with fail
  go_quiet (fail)
  replace c0:(UV.drewN nq).cell? ⟨w.heap.size,0,none⟩=some (.int .i64 y0):=c0
  replace c1:(UV.drewN nq).cell? ⟨w.heap.size,1,none⟩=some (.int .i64 y1):=c1
  replace c2:(UV.drewN nq).cell? ⟨w.heap.size,2,none⟩=some (.int .i64 y2):=c2
  replace bw:=below_drewN bw nq
  replace hX:=h.below bw
  replace hsz:w.heap.size+1≤(UV.drewN nq).heap.size:=hsz
  generalize UV.drewN nq=UW at *
  go_wp2_with fail
  refine wp_region_held_drew (S:=(fun w'=>w'.cell? ⟨w.heap.size,0,none⟩=some (.int .i64 y0)∧w'.cell? ⟨w.heap.size,1,none⟩=some (.int .i64 y1)∧w'.cell? ⟨w.heap.size,2,none⟩=some (.int .i64 y2))) (by kernel_rfl) ⟨c0,c1,c2⟩ (fun hS0=>?_)
  refine tkm 1 36 (.slice (some ⟨b,off,none⟩) k cap) ?_
  refine tkm 2 37 (.int .i64 (k:Int)) ?_
  refine tkm 3 38 (.slice (some ⟨b,off,none⟩) k cap) ?_
  refine tkm 5 40 (.agg #[.int .i64 y0,.int .i64 y1,.int .i64 y2]) ?_
  refine tkm 8 43 (.slice (some ⟨b,off,none⟩) k cap) ?_
  refine tkm 9 44 (.int .i64 (k:Int)) ?_
  refine tkm 10 45 (.slice (some ⟨b,o2,none⟩) 0 (cap - k)) ?_
  refine wpAnyH_ready (rs:=[0,6]) (by kernel_rfl) (by simp) ?_
  refine AllReadyH.cons (o:=⟨some 35,_,_,_,_,_⟩) rfl (fun K hK=>?_) (AllReadyH.cons (o:=⟨some 41,_,_,_,_,_⟩) rfl (fun K hK=>?_) AllReadyH.nil)
  focus
   have q:=(Xd UW 90 3 (w.heap.size+1) hsz).drew
   have hal:Below UW.heap.size UW (UW.alloc (.cells #[] 90)).drew:=by go_grown
   replace c0:=Za hal _ _ c0
   replace c1:=Za hal _ _ c1
   replace c2:=Za hal _ _ c2
   replace bw:=Zb bw hal
   replace hX:=hX.below hal
   replace hsz:w.heap.size+1≤(UW.alloc (.cells #[] 90)).drew.heap.size:=Nat.le_trans hsz hal.size
   go_simp
   refine hK.out _ _ ⟨c0,c1,c2⟩ (fun hS15=>?_)
   clear hK hal
   generalize UW.heap.size=V15 at *
   generalize (UW.alloc (.cells #[] 90)).drew=U15 at *
   try simp only [Act.put,tka,tkb,tkc]
   refine wpAnyH_ready (rs:=[4,6]) (by kernel_rfl) (by simp) ?_
   refine AllReadyH.cons (o:=⟨some 39,_,_,_,_,_⟩) rfl (fun K hK=>?_) (AllReadyH.cons (o:=⟨some 41,_,_,_,_,_⟩) rfl (fun K hK=>?_) AllReadyH.nil)
   focus
    refine ZM rfl _ _ 29 rfl (w.heap.size+1) 90 i0 (.agg #[.int .i64 0,.int .i64 0,.int .i64 0]) 3 24 Tryz.underlying29 hi hz0 hz1 hz2 rfl (by decide) (.slice (some ⟨V15,0,none⟩) 0 0) 0 [] rfl q ⟨b,off,none⟩ k cap (Zk (xs.take k)) rfl (by rw [Zr,List.length_take];omega) (ZR (WQ hX hkn).2) (ZY _) (by unfold maxLen;omega) (by omega) hsz ?_
    intro v16 U16 q2 gr hob
    replace c0:=Zg gr c0 (fun e=>Nat.not_succ_le_self _ (q.lt _ e.symm).1)
    replace c1:=Zg gr c1 (fun e=>Nat.not_succ_le_self _ (q.lt _ e.symm).1)
    replace c2:=Zg gr c2 (fun e=>Nat.not_succ_le_self _ (q.lt _ e.symm).1)
    replace bw:=bw.grown gr bw.size (fun g hg=>by have:=(q.lt g hg).1;omega)
    replace hX:=h.below bw
    replace hsz:w.heap.size+1≤U16.heap.size:=Nat.le_trans hsz gr.size
    refine hK.out _ _ ⟨c0,c1,c2⟩ (fun hS16=>?_)
    clear hK q gr hob
    have q:=q2
    clear q2
    try simp only [Act.put,tka,tkb,tkc]
    refine tkr 6 41 (fun K hK=>?_)
    obtain ⟨G,hG⟩:∃ G,G=U16.heap.size:=⟨_,rfl⟩
    have e0:(U16.alloc (.cells #[.int .i64 y0,.int .i64 y1,.int .i64 y2] 90)).cell? ⟨G,0,none⟩=some (.int .i64 y0):=by subst hG;simp [go_sem]
    have e1:(U16.alloc (.cells #[.int .i64 y0,.int .i64 y1,.int .i64 y2] 90)).cell? ⟨G,1,none⟩=some (.int .i64 y1):=by subst hG;simp [go_sem]
    have e2:(U16.alloc (.cells #[.int .i64 y0,.int .i64 y1,.int .i64 y2] 90)).cell? ⟨G,2,none⟩=some (.int .i64 y2):=by subst hG;simp [go_sem]
    have hal:Below U16.heap.size U16 (U16.alloc (.cells #[.int .i64 y0,.int .i64 y1,.int .i64 y2] 90)):=by go_grown
    have hap:∀ g,Value.ownBlock v16=some g→g≠G:=fun g hg e=>by have:=(q.lt g hg).2;omega
    replace q:=Zz q hal
    replace c0:=Za hal _ _ c0
    replace c1:=Za hal _ _ c1
    replace c2:=Za hal _ _ c2
    replace bw:=Zb bw hal
    replace hX:=hX.below hal
    replace hsz:w.heap.size+1≤(U16.alloc (.cells #[.int .i64 y0,.int .i64 y1,.int .i64 y2] 90)).heap.size:=Nat.le_trans hsz hal.size
    go_simp
    rw [← hG]
    refine hK.out _ _ ⟨c0,c1,c2⟩ (fun hS17=>?_)
    clear hK hal
    clear hG
    generalize (U16.alloc (.cells #[.int .i64 y0,.int .i64 y1,.int .i64 y2] 90))=U17 at *
   rotate_left
   focus
    obtain ⟨G,hG⟩:∃ G,G=U15.heap.size:=⟨_,rfl⟩
    have e0:(U15.alloc (.cells #[.int .i64 y0,.int .i64 y1,.int .i64 y2] 90)).cell? ⟨G,0,none⟩=some (.int .i64 y0):=by subst hG;simp [go_sem]
    have e1:(U15.alloc (.cells #[.int .i64 y0,.int .i64 y1,.int .i64 y2] 90)).cell? ⟨G,1,none⟩=some (.int .i64 y1):=by subst hG;simp [go_sem]
    have e2:(U15.alloc (.cells #[.int .i64 y0,.int .i64 y1,.int .i64 y2] 90)).cell? ⟨G,2,none⟩=some (.int .i64 y2):=by subst hG;simp [go_sem]
    have hal:Below U15.heap.size U15 (U15.alloc (.cells #[.int .i64 y0,.int .i64 y1,.int .i64 y2] 90)):=by go_grown
    have hap:∀ g,Value.ownBlock (.slice (some ⟨V15,0,none⟩) 0 0)=some g→g≠G:=fun g hg e=>by have:=(q.lt g hg).2;omega
    replace q:=Zz q hal
    replace c0:=Za hal _ _ c0
    replace c1:=Za hal _ _ c1
    replace c2:=Za hal _ _ c2
    replace bw:=Zb bw hal
    replace hX:=hX.below hal
    replace hsz:w.heap.size+1≤(U15.alloc (.cells #[.int .i64 y0,.int .i64 y1,.int .i64 y2] 90)).heap.size:=Nat.le_trans hsz hal.size
    go_simp
    rw [← hG]
    refine hK.out _ _ ⟨c0,c1,c2⟩ (fun hS20=>?_)
    clear hK hal
    clear hG
    generalize (U15.alloc (.cells #[.int .i64 y0,.int .i64 y1,.int .i64 y2] 90))=U20 at *
    try simp only [Act.put,tka,tkb,tkc]
    refine tkr 4 39 (fun K hK=>?_)
    have hGl:=World.block_lt_of_cell? _ _ e0
    refine ZM rfl _ _ 29 rfl (w.heap.size+1) 90 i0 (.agg #[.int .i64 0,.int .i64 0,.int .i64 0]) 3 24 Tryz.underlying29 hi hz0 hz1 hz2 rfl (by decide) (.slice (some ⟨V15,0,none⟩) 0 0) 0 [] rfl q ⟨b,off,none⟩ k cap (Zk (xs.take k)) rfl (by rw [Zr,List.length_take];omega) (ZR (WQ hX hkn).2) (ZY _) (by unfold maxLen;omega) (by omega) hsz ?_
    intro v16 U21 q2 gr hob
    replace c0:=Zg gr c0 (fun e=>Nat.not_succ_le_self _ (q.lt _ e.symm).1)
    replace c1:=Zg gr c1 (fun e=>Nat.not_succ_le_self _ (q.lt _ e.symm).1)
    replace c2:=Zg gr c2 (fun e=>Nat.not_succ_le_self _ (q.lt _ e.symm).1)
    replace e0:=Zg gr e0 (fun e=>hap _ e.symm rfl)
    replace e1:=Zg gr e1 (fun e=>hap _ e.symm rfl)
    replace e2:=Zg gr e2 (fun e=>hap _ e.symm rfl)
    have hap2:∀ g,Value.ownBlock v16=some g→g≠G:=fun g hg e=>by
     rcases hob with hu | hu
     ·exact hap g (hu▸hg) e
     rw [hu] at hg
     simp at hg hGl
     omega
    clear hap hGl
    have hap:=hap2
    clear hap2
    replace bw:=bw.grown gr bw.size (fun g hg=>by have:=(q.lt g hg).1;omega)
    replace hX:=h.below bw
    replace hsz:w.heap.size+1≤U21.heap.size:=Nat.le_trans hsz gr.size
    refine hK.out _ _ ⟨c0,c1,c2⟩ (fun hS21=>?_)
    clear hK q gr hob
    have q:=q2
    clear q2
  rotate_left 2
  focus
   obtain ⟨G,hG⟩:∃ G,G=UW.heap.size:=⟨_,rfl⟩
   have e0:(UW.alloc (.cells #[.int .i64 y0,.int .i64 y1,.int .i64 y2] 90)).drew.cell? ⟨G,0,none⟩=some (.int .i64 y0):=by subst hG;simp [go_sem]
   have e1:(UW.alloc (.cells #[.int .i64 y0,.int .i64 y1,.int .i64 y2] 90)).drew.cell? ⟨G,1,none⟩=some (.int .i64 y1):=by subst hG;simp [go_sem]
   have e2:(UW.alloc (.cells #[.int .i64 y0,.int .i64 y1,.int .i64 y2] 90)).drew.cell? ⟨G,2,none⟩=some (.int .i64 y2):=by subst hG;simp [go_sem]
   have hal:Below UW.heap.size UW (UW.alloc (.cells #[.int .i64 y0,.int .i64 y1,.int .i64 y2] 90)).drew:=by go_grown
   replace c0:=Za hal _ _ c0
   replace c1:=Za hal _ _ c1
   replace c2:=Za hal _ _ c2
   replace bw:=Zb bw hal
   replace hX:=hX.below hal
   replace hsz:w.heap.size+1≤(UW.alloc (.cells #[.int .i64 y0,.int .i64 y1,.int .i64 y2] 90)).drew.heap.size:=Nat.le_trans hsz hal.size
   go_simp
   rw [← hG]
   refine hK.out _ _ ⟨c0,c1,c2⟩ (fun hS24=>?_)
   clear hK hal
   clear hG
   generalize (UW.alloc (.cells #[.int .i64 y0,.int .i64 y1,.int .i64 y2] 90)).drew=U24 at *
   try simp only [Act.put,tka,tkb,tkc]
   refine tkr 0 35 (fun K hK=>?_)
   have q:=(Xd U24 90 3 (w.heap.size+1) hsz)
   have hap:∀ g,(Value.slice (some ⟨U24.heap.size,0,none⟩) 0 0).ownBlock=some g→g≠G:=fun g hg e=>by have hGl:=World.block_lt_of_cell? _ _ e0;simp [Value.ownBlock] at hg;simp at hGl;omega
   have hal:Below U24.heap.size U24 (U24.alloc (.cells #[] 90)):=by go_grown
   replace e0:=Za hal _ _ e0
   replace e1:=Za hal _ _ e1
   replace e2:=Za hal _ _ e2
   replace c0:=Za hal _ _ c0
   replace c1:=Za hal _ _ c1
   replace c2:=Za hal _ _ c2
   replace bw:=Zb bw hal
   replace hX:=hX.below hal
   replace hsz:w.heap.size+1≤(U24.alloc (.cells #[] 90)).heap.size:=Nat.le_trans hsz hal.size
   go_simp
   refine hK.out _ _ ⟨c0,c1,c2⟩ (fun hS25=>?_)
   clear hK hal
   generalize U24.heap.size=V25 at *
   generalize (U24.alloc (.cells #[] 90))=U25 at *
   try simp only [Act.put,tka,tkb,tkc]
   refine tkr 4 39 (fun K hK=>?_)
   have hGl:=World.block_lt_of_cell? _ _ e0
   refine ZM rfl _ _ 29 rfl (w.heap.size+1) 90 i0 (.agg #[.int .i64 0,.int .i64 0,.int .i64 0]) 3 24 Tryz.underlying29 hi hz0 hz1 hz2 rfl (by decide) (.slice (some ⟨V25,0,none⟩) 0 0) 0 [] rfl q ⟨b,off,none⟩ k cap (Zk (xs.take k)) rfl (by rw [Zr,List.length_take];omega) (ZR (WQ hX hkn).2) (ZY _) (by unfold maxLen;omega) (by omega) hsz ?_
   intro v16 U26 q2 gr hob
   replace c0:=Zg gr c0 (fun e=>Nat.not_succ_le_self _ (q.lt _ e.symm).1)
   replace c1:=Zg gr c1 (fun e=>Nat.not_succ_le_self _ (q.lt _ e.symm).1)
   replace c2:=Zg gr c2 (fun e=>Nat.not_succ_le_self _ (q.lt _ e.symm).1)
   replace e0:=Zg gr e0 (fun e=>hap _ e.symm rfl)
   replace e1:=Zg gr e1 (fun e=>hap _ e.symm rfl)
   replace e2:=Zg gr e2 (fun e=>hap _ e.symm rfl)
   have hap2:∀ g,Value.ownBlock v16=some g→g≠G:=fun g hg e=>by
    rcases hob with hu | hu
    ·exact hap g (hu▸hg) e
    rw [hu] at hg
    simp at hg hGl
    omega
   clear hap hGl
   have hap:=hap2
   clear hap2
   replace bw:=bw.grown gr bw.size (fun g hg=>by have:=(q.lt g hg).1;omega)
   replace hX:=h.below bw
   replace hsz:w.heap.size+1≤U26.heap.size:=Nat.le_trans hsz gr.size
   refine hK.out _ _ ⟨c0,c1,c2⟩ (fun hS26=>?_)
   clear hK q gr hob
   have q:=q2
   clear q2
  all_goals
   try simp only [Act.put,tka,tkb,tkc]
   refine tkr 7 42 (fun K hK=>?_)
   refine ZM rfl _ _ 29 rfl (w.heap.size+1) 90 i0 (.agg #[.int .i64 0,.int .i64 0,.int .i64 0]) 3 24 Tryz.underlying29 hi hz0 hz1 hz2 rfl (by decide) v16 (0+k) ([]++Zk (xs.take k)) rfl q ⟨G,0,none⟩ 1 1 [.int .i64 y0,.int .i64 y1,.int .i64 y2] rfl rfl (Ms e0 e1 e2) (Um _ _ _) (by unfold maxLen;omega) (by omega) hsz ?_
   intro v18 U18 q2 gr hob
   replace c0:=Zg gr c0 (fun e=>Nat.not_succ_le_self _ (q.lt _ e.symm).1)
   replace c1:=Zg gr c1 (fun e=>Nat.not_succ_le_self _ (q.lt _ e.symm).1)
   replace c2:=Zg gr c2 (fun e=>Nat.not_succ_le_self _ (q.lt _ e.symm).1)
   replace bw:=bw.grown gr bw.size (fun g hg=>by have:=(q.lt g hg).1;omega)
   replace hX:=h.below bw
   replace hsz:w.heap.size+1≤U18.heap.size:=Nat.le_trans hsz gr.size
   refine hK.out _ _ ⟨c0,c1,c2⟩ (fun hS18=>?_)
   clear hK q gr hob
   have q:=q2
   clear q2
   clear e0 e1 e2 hap
   try simp only [Act.put,tka,tkb,tkc]
   refine tkr 11 46 (fun K hK=>?_)
   refine ZM rfl _ _ 29 rfl (w.heap.size+1) 90 i0 (.agg #[.int .i64 0,.int .i64 0,.int .i64 0]) 3 24 Tryz.underlying29 hi hz0 hz1 hz2 rfl (by decide) v18 (0+k+1) (([]++Zk (xs.take k))++[.int .i64 y0,.int .i64 y1,.int .i64 y2]) rfl q ⟨b,o2,none⟩ 0 (cap - k) (Zk (xs.drop k)) rfl (by rw [Zr,List.length_drop];omega) (ZR (hD.below bw)) (ZY _) (by unfold maxLen;omega) (by omega) hsz ?_
   intro v19 U19 q2 gr hob
   replace c0:=Zg gr c0 (fun e=>Nat.not_succ_le_self _ (q.lt _ e.symm).1)
   replace c1:=Zg gr c1 (fun e=>Nat.not_succ_le_self _ (q.lt _ e.symm).1)
   replace c2:=Zg gr c2 (fun e=>Nat.not_succ_le_self _ (q.lt _ e.symm).1)
   replace bw:=bw.grown gr bw.size (fun g hg=>by have:=(q.lt g hg).1;omega)
   replace hX:=h.below bw
   replace hsz:w.heap.size+1≤U19.heap.size:=Nat.le_trans hsz gr.size
   refine hK.out _ _ ⟨c0,c1,c2⟩ (fun hS19=>?_)
   clear hK q gr hob
   have q:=q2
   clear q2
   try simp only [Act.put,tka,tkb,tkc]
   refine tkm 12 4 v19 ?_
   refine wpAnyH_done (by kernel_rfl) ?_ _
   have hQ:=HP.out _ _ q
   obtain ⟨g,c,rfl⟩:=XZ q (by omega)
   clear q c0 c1 c2 rT rD
   go_wp2
   go_ret
   exact ⟨⟨_,rfl,hQ⟩,bw⟩
end Go.Proofs.YtmhlokahmblboaaGreatDoor
