/-
  Joined: Ints0, Kit8, Prog0, Vm0.
-/
import Derived.Test.YtojcgajjnmjjpaaGreatDoorProg
import Derived.Deep.RegionHeld3
import Derived.KernelRfl
import Derived.Tactics
import Derived.WalkKit
import Derived.WalkSpells
import Derived.WalkLawsBesides
import Derived.RegionTactic
import Derived.BigQuiet
import Derived.Deep.QuietTactic
import Derived.Maps.AppendAt
import Derived.Lib.Hide
import Derived.Deep.Slices
import Derived.Deep.Strs
import Derived.Deep.Fields
import Derived.ChangeSame
import Derived.ChangeSlices
import Derived.Lib.SmallJoins

namespace Go.Proofs.YtojcgajjnmjjpaaGreatDoor
set_option maxRecDepth 100000
open Go.RowKit

def Ints (k:IntKind) (w:World) (a:Option Addr) (len cap:Nat) (zs:List Int):Prop:=
 zs.length=len∧len≤cap∧cap≤maxLen ∧
 (len=0∨∃ b off,a=some ⟨b,off,none⟩∧b<w.heap.size∧∀ t,t<len→w.cell? ⟨b,off+t,none⟩=some (.int k (zs.getD t 0)))

theorem lt_of_cell {w:World} {b o:Nat} {v:Value} (h:w.cell? ⟨b,o,none⟩=some v):b<w.heap.size:=by
 rcases Nat.lt_or_ge b w.heap.size with h' | h'
 ·exact h'
 ·simp [World.cell?,Array.getElem?_eq_none h'] at h

theorem Ints.below {k:IntKind} {w w':World} {a:Option Addr} {len cap:Nat} {zs:List Int} (h:Ints k w a len cap zs) (hb:Below w.heap.size w w'):Ints k w' a len cap zs:=by
 obtain ⟨h1,h2,h3,h4⟩:=h
 refine ⟨h1,h2,h3,?_⟩
 rcases h4 with h4 | ⟨b,off,ha,hlt,hc⟩
 ·exact .inl h4
 ·exact .inr ⟨b,off,ha,by have:=hb.size;omega,fun t ht=>by rw [hb.cell (p:=⟨b,off+t,none⟩) hlt];exact hc t ht⟩

theorem Ints.of_owns {k:IntKind} {w:World} {base e n cap g:Nat} {zs:List Int} (h:w.ownsRow base e 1 (.slice (some ⟨g,0,none⟩) n cap) n (zs.map (Value.int k))):Ints k w (some ⟨g,0,none⟩) n cap zs:=by
 have hl:zs.length=n:=by simpa using h.1
 have hc:∀ t,t<n→w.cell? ⟨g,0+t,none⟩=some (.int k (zs.getD t 0)):=by
  intro t ht
  have:=h.cellAt t (by omega)
  rw [Nat.zero_add,this]
  simp [List.getElem?_eq_getElem (show t<zs.length by omega)]
 have hg:=(h.lt g rfl).2
 rcases h.2 with ⟨h0,_⟩ | ⟨g',cap',cur,hv,_,_,hn,hcap,_,_⟩
 ·cases h0
 ·cases hv
  exact ⟨hl,hn,hcap,.inr ⟨g,0,rfl,hg,hc⟩⟩

theorem info_int:(Tryz.prog.info? 3).map (fun i=>(i.zero,i.size,i.bytes))=some (some (.int .i64 0),1,8):=by kernel_rfl

theorem made_ints (n:Nat):(madeCells #[Value.int .i64 0] n).toList=(List.replicate n (0:Int)).map (Value.int .i64):=by
 rw [toList_madeCells_one,List.map_replicate]

set_option linter.unusedVariables false

def RowGot (e:Ending) (w':World) (B:Nat) (xs:List Int):Prop:=∃ v,e=.returned v∧w'.ownsRow B 3 1 v xs.length (xs.map (Value.int .i64))
theorem bel8 {a b c:World} (h:Below a.heap.size a b) (k:Below b.heap.size b c):Below a.heap.size a c:=h.trans (k.mono h.size)
theorem owns8 {B e k n:Nat} {v:Value} {xs:List Value} {w w':World} (h:w.ownsRow B e k v n xs) (hb:Below w.heap.size w w'):w'.ownsRow B e k v n xs:=
 h.kept (row:=none) ⟨hb.os,hb.tape,hb.output,hb.size,fun i hi _=>hb.block i hi⟩ (by cases v.ownBlock<;>simp)
theorem cell8 {w w':World} (h:Below w.heap.size w w') {p:Addr} {v:Value} (hv:w.cell? p=some v):w'.cell? p=some v:=by
 rw [h.cell (World.block_lt_of_cell? _ _ hv)]
 exact hv
theorem grown8 {w w':World} {row:Option Nat} (g:w.grownBy w' row) {p:Addr} {v:Value} (hc:w.cell? p=some v) (hne:some p.block≠row):w'.cell? p=some v:=by
 have hl:=World.block_lt_of_cell? _ _ hc
 rw [← hc]
 unfold World.cell?
 rw [g.block p.block hl hne]
theorem lower8 {w:World} {B B' e s n:Nat} {v:Value} {cs:List Value} (h:w.ownsRow B e s v n cs) (hB:B'≤B):w.ownsRow B' e s v n cs:=by
 refine ⟨h.1,?_⟩
 rcases h.2 with h0 | ⟨g,cap,cur,hv,hg,rest⟩
 ·exact .inl h0
 ·exact .inr ⟨g,cap,cur,hv,by omega,rest⟩
theorem some8 {w:World} {B e s n:Nat} {v:Value} {cs:List Value} (h:w.ownsRow B e s v n cs) (hn:0<n):∃ g c,v=.slice (some ⟨g,0,none⟩) n c:=by
 rcases h.2 with ⟨rfl,h0⟩ | ⟨g,cap,cur,hv,_⟩
 ·omega
 ·exact ⟨g,cap,hv⟩
theorem slice8 {w:World} {B e s n:Nat} {v:Value} {cs:List Value} (h:w.ownsRow B e s v n cs):∃ a c,v=.slice a n c:=by
 rcases h.2 with ⟨rfl,h0⟩ | ⟨g,cap,cur,hv,_⟩
 ·subst h0;exact ⟨none,0,rfl⟩
 ·exact ⟨some ⟨g,0,none⟩,cap,hv⟩
theorem empty8 (w:World) (t s B:Nat) (hB:B≤w.heap.size):(w.alloc (.cells #[] t)).ownsRow B t s (.slice (some ⟨w.heap.size,0,none⟩) 0 0) 0 []:=World.ownsRow_lit w #[] 0 hB (by unfold maxLen;omega) (by simp)
theorem ints8 {w:World} {B n c:Nat} {a:Option Addr} {xs:List Int} (h:w.ownsRow B 3 1 (.slice a n c) n (xs.map (Value.int .i64))):Ints .i64 w a n c xs:=by
 rcases h.2 with ⟨e,h0⟩ | ⟨b,cc,cur,e,h1,h2,h3,h4⟩
 ·cases e
  have hl:=h.1
  exact ⟨by simpa using hl,Nat.le_refl _,by unfold maxLen;omega,.inl rfl⟩
 ·cases e
  exact Ints.of_owns h
theorem news8 {w:World} {b off n c:Nat} {xs:List Int} (h:Ints .i64 w (some ⟨b,off,none⟩) n c xs):∀ j u,(xs.map (Value.int .i64))[j]?=some u→w.cell? ((⟨b,off,none⟩:Addr).add j)=some u:=by
 intro j u hj
 obtain ⟨hl,_,_,hcase⟩:=h
 have hjl:j<xs.length:=by simpa using (List.getElem?_eq_some_iff.1 hj).1
 rcases hcase with h0 | ⟨b',off',he,hb,hc⟩
 ·omega
 ·cases he
  have:=hc j (by omega)
  have e:(⟨b,off,none⟩:Addr).add j=⟨b,off+j,none⟩:=by unfold Addr.add;split<;>simp_all
  rw [e,this]
  simp [List.getElem?_eq_getElem hjl] at hj
  simp [List.getD,List.getElem?_eq_getElem hjl,hj]
theorem one8 (xs:List Int):∀ u ∈ xs.map (Value.int .i64),u.oneCell'=true:=by
 intro u hu
 obtain ⟨x,_,rfl⟩:=List.mem_map.1 hu
 rfl
theorem step_app8 {P:Program} {ops:Array Oper} {o:Oper} {a:Act} {w:World} {K:Act→World→Prop} {Q:Exit→Act→World→Prop} {E:Prop}
  (hg:o.guard=none) (s x:Operand) (t:TypeId) (hop:o.op=Op.call { callee:=Callee.builtin Builtin.append,args:=#[s,x],argTypes:=#[t,t] })
  (base:Nat) (e:TypeId) (i:TypeInfo) (z:Value) (size bytes:Nat) (h1:P.underlying t=some (.slice e)) (h2:P.info? e=some i) (h3:i.zero=some z) (h4:i.size=size) (h5:i.bytes=bytes) (h6:z.cells.size=size) (h7:0<size)
  (v:Value) (n:Nat) (olds:List Value) (hs:a.eval s=v) (hown:w.ownsRow base e size v n olds)
  (ad:Addr) (m c:Nat) (news:List Value) (hx:a.eval x=.slice (some ad) m c) (hn:news.length=m*size) (hc:∀ j u,news[j]?=some u→w.cell? (ad.add j)=some u) (h1c:∀ u ∈ news,u.oneCell'=true)
  (b1:n+m≤maxLen) (b2:(n+m)*bytes≤140737488355328) (hbw:base≤w.heap.size)
  (hK:∀ v' w',w'.ownsRow base e size v' (n+m) (olds++news)→w.grownBy w' v.ownBlock→(v'.ownBlock=v.ownBlock∨v'.ownBlock=some w.heap.size)→K (a.put o.dst v') w') :
  if Region.wanted o (yielded ops a.tmps)=true then Oper.wp P o a w K Q else E:=by
 have hw:Region.wanted o (yielded ops a.tmps)=true:=by simp [Region.wanted,hg]
 rw [if_pos hw]
 obtain ⟨v',w',hrun,r1,r2,_,r4⟩:=run_append_own_at (P:=P) (w:=w) base t o.type e i z size bytes h1 h2 h3 h4 h5 h6 h7 v n olds hown ad m c news hn hc h1c b1 b2 hbw
 subst hs
 unfold Oper.wp
 simp [execOp,hop,resolve,invoke,builtin,hx,hrun,Result.andThen]
 exact hK v' w' r1 r2 r4
theorem slice_h8 {w:World} {b off len cap hi:Nat} {xs:List Int} (h:Ints .i64 w (some ⟨b,off,none⟩) len cap xs) (h2:hi≤len) :
  (∀ W,(Instr.slice 35 (.slice (some ⟨b,off,none⟩) len cap) none (some (.int .i64 (hi:Int))) none).run Tryz.prog W=.ok (.slice (some ⟨b,off,none⟩) hi cap) W)∧Ints .i64 w (some ⟨b,off,none⟩) hi cap (xs.take hi):=by
 obtain ⟨hl,hlc,hcm,hcase⟩:=h
 have hhc:(hi:Int)≤(cap:Int):=by omega
 refine ⟨fun W=>?_,by rw [List.length_take];omega,by omega,by omega,?_⟩
 ·go_simp
  try omega
 ·rcases hcase with h0 | ⟨b',off',he,hb,hc⟩
  ·exact .inl (by omega)
  ·cases he
   refine .inr ⟨b,off,rfl,hb,fun t ht=>?_⟩
   rw [hc t (by omega)]
   simp [List.getD,ht]
theorem slice_l8 {w:World} {b off len cap lo:Nat} {xs:List Int} (h:Ints .i64 w (some ⟨b,off,none⟩) len cap xs) (h1:lo≤len) :
  ∃ o2,(∀ W,(Instr.slice 35 (.slice (some ⟨b,off,none⟩) len cap) (some (.int .i64 (lo:Int))) none none).run Tryz.prog W=.ok (.slice (some ⟨b,o2,none⟩) (len - lo) (cap - lo)) W)∧Ints .i64 w (some ⟨b,o2,none⟩) (len - lo) (cap - lo) (xs.drop lo):=by
 obtain ⟨hl,hlc,hcm,hcase⟩:=h
 have hlh:(lo:Int)≤(len:Int):=by omega
 by_cases hz:cap - lo=0
 ·refine ⟨off,fun W=>?_,by rw [List.length_drop];omega,by omega,by omega,.inl (by omega)⟩
  go_simp
  omega
 ·refine ⟨off+lo,fun W=>?_,by rw [List.length_drop];omega,by omega,by omega,?_⟩
  ·go_simp
   omega
  ·rcases hcase with h0 | ⟨b',off',he,hb,hc⟩
   ·exact .inl (by omega)
   ·cases he
    refine .inr ⟨b,off+lo,rfl,hb,fun t ht=>?_⟩
    have:=hc (lo+t) (by omega)
    rw [show off+lo+t=off+(lo+t) by omega,this]
    simp [List.getD]

open Go.RowKit Go.ChangeShapes Go.WideShapes

theorem bel_trans {a b c:World} (h:Below a.heap.size a b) (k:Below b.heap.size b c):Below a.heap.size a c:=h.trans (k.mono h.size)

abbrev I3:=Int × Int × Int

def I3.fits (x:I3):Prop:=(Lit.int .i64 x.1).wf=true∧(Lit.int .i64 x.2.1).wf=true∧(Lit.int .i64 x.2.2).wf=true

def I3.val (x:I3):Value:=.agg #[.int .i64 x.1,.int .i64 x.2.1,.int .i64 x.2.2]

def Instrs (w:World) (a:Option Addr) (len cap:Nat) (xs:List I3):Prop:=
 xs.length=len∧len≤cap∧cap≤maxLen∧(∀ x ∈ xs,I3.fits x) ∧
 (len=0∨∃ b off,a=some ⟨b,off,none⟩∧b<w.heap.size∧∀ t,t<len →
  w.cell? ⟨b,off+t*3,none⟩=some (.int .i64 (xs.getD t (0,0,0)).1) ∧
  w.cell? ⟨b,off+t*3+1,none⟩=some (.int .i64 (xs.getD t (0,0,0)).2.1) ∧
  w.cell? ⟨b,off+t*3+2,none⟩=some (.int .i64 (xs.getD t (0,0,0)).2.2))

def Codes (w:World) (a:Option Addr) (len cap:Nat) (P:List (List I3)):Prop:=
 P.length=len∧len≤cap∧cap≤maxLen ∧
 (len=0∨∃ b off,a=some ⟨b,off,none⟩∧b<w.heap.size∧∀ t,t<len →
  ∃ a' len' cap',w.cell? ⟨b,off+t,none⟩=some (.slice a' len' cap')∧Instrs w a' len' cap' (P.getD t []))

theorem Instrs.below {w w':World} {a:Option Addr} {len cap:Nat} {xs:List I3} (h:Instrs w a len cap xs) (hb:Below w.heap.size w w'):Instrs w' a len cap xs:=by
 obtain ⟨h1,h2,h3,hf,h4⟩:=h
 refine ⟨h1,h2,h3,hf,?_⟩
 rcases h4 with h4 | ⟨b,off,ha,hlt,hc⟩
 ·exact .inl h4
 ·refine .inr ⟨b,off,ha,by have:=hb.size;omega,fun t ht=>?_⟩
  obtain ⟨c0,c1,c2⟩:=hc t ht
  exact ⟨by rw [hb.cell (p:=⟨b,_,none⟩) hlt];exact c0,by rw [hb.cell (p:=⟨b,_,none⟩) hlt];exact c1,by rw [hb.cell (p:=⟨b,_,none⟩) hlt];exact c2⟩

theorem Codes.below {w w':World} {a:Option Addr} {len cap:Nat} {P:List (List I3)} (h:Codes w a len cap P) (hb:Below w.heap.size w w'):Codes w' a len cap P:=by
 obtain ⟨h1,h2,h3,h4⟩:=h
 refine ⟨h1,h2,h3,?_⟩
 rcases h4 with h4 | ⟨b,off,ha,hlt,hc⟩
 ·exact .inl h4
 ·refine .inr ⟨b,off,ha,by have:=hb.size;omega,fun t ht=>?_⟩
  obtain ⟨a',l',c',hcell,hi⟩:=hc t ht
  exact ⟨a',l',c',by rw [hb.cell (p:=⟨b,_,none⟩) hlt];exact hcell,hi.below hb⟩

section
variable {H : Type} {enc : TypeId × Value → H} {P : Program} {w : World} {base : Nat} {spare : Nat → Bool} {held : Bool}

theorem open_instr_cells {t:TypeId} {fuel:Nat} {F0 F1 F2:Field} {cs:List Value} {x:DataW H × List MemPlace}
  (ht:P.underlying t=some (.struct #[F0,F1,F2])) (hone:Go.Deep.oneCellFields P #[F0,F1,F2]=true) (hC:P.cellsOf t=3)
  (i0:P.underlying F0.type=some (.int .i64)) (i1:P.underlying F1.type=some (.int .i64)) (i2:P.underlying F2.type=some (.int .i64))
  (h:DataW.trod enc P w base spare held fuel t cs=some x):∃ y:I3,cs=[.int .i64 y.1,.int .i64 y.2.1,.int .i64 y.2.2]∧I3.fits y:=by
 obtain ⟨y0,y1,y2,n,hx,hl,h0,h1,h2⟩:=Go.Deep.trod_struct3 ht h
 rw [hC] at hl
 obtain ⟨o0,k0⟩:=Go.Deep.hone_of hone 0 F0 rfl
 obtain ⟨o1,k1⟩:=Go.Deep.hone_of hone 1 F1 rfl
 obtain ⟨o2,k2⟩:=Go.Deep.hone_of hone 2 F2 rfl
 match cs,hl with
 | [c0,c1,c2],_ =>
  simp only [o0,k0] at h0
  simp only [o1,k1] at h1
  simp only [o2,k2] at h2
  obtain ⟨m0,e0,_,f0⟩:=DataW.trod_int i0 h0
  obtain ⟨m1,e1,_,f1⟩:=DataW.trod_int i1 h1
  obtain ⟨m2,e2,_,f2⟩:=DataW.trod_int i2 h2
  simp at e0 e1 e2
  exact ⟨(m0,m1,m2),by simp [e0,e1,e2],f0,f1,f2⟩

theorem open_instrs {t e:TypeId} {fuel:Nat} {F0 F1 F2:Field} {v:Value} {x:DataW H × List MemPlace}
  (hs:P.underlying t=some (.slice e)) (ht:P.underlying e=some (.struct #[F0,F1,F2])) (hone:Go.Deep.oneCellFields P #[F0,F1,F2]=true) (hC:P.cellsOf e=3)
  (i0:P.underlying F0.type=some (.int .i64)) (i1:P.underlying F1.type=some (.int .i64)) (i2:P.underlying F2.type=some (.int .i64))
  (h:DataW.trod enc P w base spare held fuel t [v]=some x):∃ a len cap xs,v=.slice a len cap∧Instrs w a len cap xs:=by
 rcases Go.Deep.open_slice hs h with ⟨hcs,_⟩ | ⟨a,len,cap,m,n,D,Pl,hcs,_,hl,hm,hmm,_,hx⟩
 ·simp at hcs
  exact ⟨none,0,0,[],hcs,rfl,Nat.le_refl _,by unfold maxLen;omega,by simp,.inl rfl⟩
 ·simp at hcs
  have hlm:len≤m:=by rw [hmm];split<;>omega
  obtain ⟨Y,hY⟩:=Go.Deep.choose_lt (α:=I3) (n:=len) (p:=fun i y=>w.cells? base (a.add (i*3)) 3=some [.int .i64 y.1,.int .i64 y.2.1,.int .i64 y.2.2]∧I3.fits y) (fun i hi=>by
   obtain ⟨cs',h1,h2⟩:=hx i (by omega)
   rw [hC] at h1
   obtain ⟨y,hy,hf⟩:=open_instr_cells ht hone hC i0 i1 i2 h2
   exact ⟨y,by rw [h1,hy],hf⟩)
  refine ⟨some a,len,cap,(List.range len).map Y,hcs,by simp,hl,hm,?_,?_⟩
  ·intro z hz
   obtain ⟨i,hi,rfl⟩:=List.mem_map.1 hz
   exact (hY i (List.mem_range.1 hi)).2
  ·rcases Nat.eq_zero_or_pos len with h0 | h0
   ·exact .inl h0
   right
   obtain ⟨b,off,spot⟩:=a
   have hc:=(World.cells?_some (hY 0 h0).1).2.2 0 (by omega)
   have hspot:spot=none:=by simpa [Addr.add] using World.cell?_spot hc
   subst hspot
   have e:∀ i,(⟨b,off,none⟩:Addr).add i=⟨b,off+i,none⟩:=fun i=>by unfold Addr.add;split<;>simp_all
   have e':∀ i j,(⟨b,off+i,none⟩:Addr).add j=⟨b,off+i+j,none⟩:=fun i j=>by unfold Addr.add;split<;>simp_all
   have hall:∀ i,i<len→w.cell? ⟨b,off+i*3,none⟩=some (.int .i64 (((List.range len).map Y).getD i (0,0,0)).1) ∧
     w.cell? ⟨b,off+i*3+1,none⟩=some (.int .i64 (((List.range len).map Y).getD i (0,0,0)).2.1) ∧
     w.cell? ⟨b,off+i*3+2,none⟩=some (.int .i64 (((List.range len).map Y).getD i (0,0,0)).2.2):=by
    intro i hi
    have hcs:=(World.cells?_some (hY i hi).1).2.2
    have g:((List.range len).map Y).getD i (0,0,0)=Y i:=by simp [List.getD,hi]
    rw [g]
    have c0:=hcs 0 (by omega)
    have c1:=hcs 1 (by omega)
    have c2:=hcs 2 (by omega)
    rw [e,e'] at c0 c1 c2
    exact ⟨by simpa using c0,by simpa using c1,by simpa using c2⟩
   exact ⟨b,off,rfl,lt_of_cell (hall 0 h0).1,hall⟩

theorem open_codes {s t e:TypeId} {fuel:Nat} {F0 F1 F2:Field} {v:Value} {x:DataW H × List MemPlace}
  (hss:P.underlying s=some (.slice t)) (h1:P.cellsOf t=1)
  (hs:P.underlying t=some (.slice e)) (ht:P.underlying e=some (.struct #[F0,F1,F2])) (hone:Go.Deep.oneCellFields P #[F0,F1,F2]=true) (hC:P.cellsOf e=3)
  (i0:P.underlying F0.type=some (.int .i64)) (i1:P.underlying F1.type=some (.int .i64)) (i2:P.underlying F2.type=some (.int .i64))
  (h:DataW.trod enc P w base spare held fuel s [v]=some x):∃ a len cap xss,v=.slice a len cap∧Codes w a len cap xss:=by
 rcases Go.Deep.open_slice1 hss h1 h with ⟨hcs,_⟩ | ⟨a,len,cap,m,n,V,D,Pl,hcs,_,hl,hm,hmm,_,hx⟩
 ·simp at hcs
  exact ⟨none,0,0,[],hcs,rfl,Nat.le_refl _,by unfold maxLen;omega,.inl rfl⟩
 ·simp at hcs
  have hlm:len≤m:=by rw [hmm];split<;>omega
  obtain ⟨Y,hY⟩:=Go.Deep.choose_lt (α:=List I3) (n:=len) (p:=fun i y=>∃ a' len' cap',w.cell? (a.add i)=some (.slice a' len' cap')∧Instrs w a' len' cap' y) (fun i hi=>by
   obtain ⟨hc,ho⟩:=hx i (by omega)
   obtain ⟨a',l',c',xs,hv,hi'⟩:=open_instrs hs ht hone hC i0 i1 i2 ho
   exact ⟨xs,a',l',c',by rw [hc,hv],hi'⟩)
  refine ⟨some a,len,cap,(List.range len).map Y,hcs,by simp,hl,hm,?_⟩
  rcases Nat.eq_zero_or_pos len with h0 | h0
  ·exact .inl h0
  right
  obtain ⟨b,off,spot⟩:=a
  obtain ⟨_,_,_,hc,_⟩:=hY 0 h0
  have hspot:spot=none:=by simpa [Addr.add] using World.cell?_spot hc
  subst hspot
  have e:∀ i,(⟨b,off,none⟩:Addr).add i=⟨b,off+i,none⟩:=fun i=>by unfold Addr.add;split<;>simp_all
  have hall:∀ i,i<len→∃ a' len' cap',w.cell? ⟨b,off+i,none⟩=some (.slice a' len' cap')∧Instrs w a' len' cap' (((List.range len).map Y).getD i []):=by
   intro i hi
   have g:((List.range len).map Y).getD i []=Y i:=by simp [List.getD,hi]
   rw [g,← e]
   exact hY i hi
  obtain ⟨_,_,_,hc0,_⟩:=hall 0 h0
  exact ⟨b,off,rfl,lt_of_cell hc0,hall⟩
end

theorem open_laws_Program {H:Type} {enc:TypeId × Value→H} {w:World} {base:Nat} {spare:Nat→Bool} {held:Bool} {r:Reach} {b0:Nat} {v:Value} {d:DataW H} {p:List MemPlace}
  (hv:Value.okWide Tryz.prog w r b0 48 v) (h:DataW.Trod enc Tryz.prog w base spare held 48 v d p):∃ a len cap xss,v=.agg #[.slice a len cap]∧Codes w a len cap xss:=by
 obtain ⟨cs,rfl,hsz⟩:=okWide_struct Tryz.underlying48 hv
 have hsz':cs.size=1:=hsz.trans (by kernel_rfl)
 obtain ⟨fuel,hf⟩:=h
 obtain ⟨y0,n,_,_,h0⟩:=trod_struct1 Tryz.underlying48 hf
 obtain ⟨c,rfl⟩:∃ c,cs=#[c]:=by
  obtain ⟨l⟩:=cs
  match l,hsz' with
  | [c],_=>exact ⟨c,rfl⟩
 have hk:Tryz.prog.cellsOf 46=1:=by kernel_rfl
 simp only [Value.cells,hk] at h0
 obtain ⟨a,len,cap,xss,hc,hC⟩:=open_codes Tryz.underlying46 (by kernel_rfl) Tryz.underlying167 Tryz.underlying202 (by kernel_rfl) (by kernel_rfl) Tryz.underlying3 Tryz.underlying3 Tryz.underlying3 h0
 exact ⟨a,len,cap,xss,by rw [hc],hC⟩

open Go.RowKit Go.ChangeShapes Go.WideShapes Go.Joins

abbrev V4:=List Int × List Int × List Int × List Int
abbrev Sl:=Option Addr × Nat × Nat
def Sl.val (s:Sl):Value:=.slice s.1 s.2.1 s.2.2
abbrev S4:=Sl × Sl × Sl × Sl
def S4.val (s:S4):Value:=.agg #[.slice s.1.1 s.1.2.1 s.1.2.2,.slice s.2.1.1 s.2.1.2.1 s.2.1.2.2,.slice s.2.2.1.1 s.2.2.1.2.1 s.2.2.1.2.2,.slice s.2.2.2.1 s.2.2.2.2.1 s.2.2.2.2.2]
def SlInts (w:World) (s:Sl) (zs:List Int):Prop:=Ints .i64 w s.1 s.2.1 s.2.2 zs∧∀ z ∈ zs,(Lit.int .i64 z).wf=true
def Vmem (w:World) (s:S4) (m:V4):Prop:=SlInts w s.1 m.1∧SlInts w s.2.1 m.2.1∧SlInts w s.2.2.1 m.2.2.1∧SlInts w s.2.2.2 m.2.2.2

theorem SlInts.below {w w':World} {s:Sl} {zs:List Int} (h:SlInts w s zs) (hb:Below w.heap.size w w'):SlInts w' s zs:=⟨h.1.below hb,h.2⟩
theorem Vmem.below {w w':World} {s:S4} {m:V4} (h:Vmem w s m) (hb:Below w.heap.size w w'):Vmem w' s m:=⟨h.1.below hb,h.2.1.below hb,h.2.2.1.below hb,h.2.2.2.below hb⟩

section
variable {H : Type} {enc : TypeId × Value → H} {P : Program} {w : World} {base : Nat} {spare : Nat → Bool} {held : Bool}
theorem open_slI {t e:TypeId} {fuel:Nat} {v:Value} {x:DataW H × List MemPlace} (hs:P.underlying t=some (.slice e)) (he:P.underlying e=some (.int .i64)) (hC:P.cellsOf e=1)
  (h:DataW.trod enc P w base spare held fuel t [v]=some x):∃ (s:Sl) (zs:List Int),v=s.val∧SlInts w s zs:=by
 rcases Go.ChangeShapes.open_ints hs he hC h with ⟨hcs,_⟩ | ⟨a,len,cap,zs,hcs,_,hl,hm,hz,_,hcell,hwf⟩
 ·simp at hcs
  exact ⟨(none,0,0),[],hcs,⟨rfl,Nat.le_refl _,Nat.zero_le _,.inl rfl⟩,by simp⟩
 ·simp at hcs
  have hle:len≤zs.length:=by rw [hz];split<;>omega
  refine ⟨(some a,len,cap),zs.take len,hcs,⟨by simp;omega,hl,hm,?_⟩,fun z hz=>hwf z (List.mem_of_mem_take hz)⟩
  rcases Nat.eq_zero_or_pos len with h0 | h0
  ·exact .inl h0
  ·right
   obtain ⟨b,off,spot⟩:=a
   have hc:=hcell 0 (by omega)
   have hspot:spot=none:=by simpa [Addr.add] using World.cell?_spot hc
   subst hspot
   have hall:∀ t,t<len→w.cell? ⟨b,off+t,none⟩=some (.int .i64 ((zs.take len).getD t 0)):=by
    intro t ht
    have:=hcell t (by omega)
    have e:(⟨b,off,none⟩:Addr).add t=⟨b,off+t,none⟩:=by unfold Addr.add;split<;>simp_all
    rw [e] at this
    rw [this]
    simp [List.getD,ht]
   exact ⟨b,off,rfl,lt_of_cell (hall 0 h0),hall⟩
end

theorem open_laws_Vm {H:Type} {enc:TypeId × Value→H} {w:World} {base:Nat} {spare:Nat→Bool} {held:Bool} {r:Reach} {b0:Nat} {v:Value} {d:DataW H} {p:List MemPlace}
  (hv:Value.okWide Tryz.prog w r b0 49 v) (h:DataW.Trod enc Tryz.prog w base spare held 49 v d p):∃ (s:S4) (m:V4),v=s.val∧Vmem w s m:=by
 obtain ⟨cs,rfl,hsz⟩:=okWide_struct Tryz.underlying49 hv
 have hsz':cs.size=4:=hsz.trans (by kernel_rfl)
 obtain ⟨fuel,hf⟩:=h
 obtain ⟨y0,y1,y2,y3,n,_,_,h0,h1,h2,h3⟩:=trod_struct4 Tryz.underlying49 hf
 obtain ⟨v0,v1,v2,v3,rfl⟩:=array4 hsz'
 have hk:Tryz.prog.cellsOf 35=1:=by kernel_rfl
 simp only [Value.cells,hk] at h0 h1 h2 h3
 obtain ⟨s0,m0,e0,g0⟩:=open_slI Tryz.underlying35 Tryz.underlying3 (by kernel_rfl) h0
 obtain ⟨s1,m1,e1,g1⟩:=open_slI Tryz.underlying35 Tryz.underlying3 (by kernel_rfl) h1
 obtain ⟨s2,m2,e2,g2⟩:=open_slI Tryz.underlying35 Tryz.underlying3 (by kernel_rfl) h2
 obtain ⟨s3,m3,e3,g3⟩:=open_slI Tryz.underlying35 Tryz.underlying3 (by kernel_rfl) h3
 exact ⟨(s0,s1,s2,s3),(m0,m1,m2,m3),by rw [e0,e1,e2,e3];rfl,g0,g1,g2,g3⟩
end Go.Proofs.YtojcgajjnmjjpaaGreatDoor
