/-
  Joined: Prog0, Vm0, Prog1, Prog2.
-/
import Derived.Deep.Slices
import Derived.Deep.Strs
import Derived.Deep.Fields
import Derived.ChangeSame
import Derived.ChangeSlices
import Derived.Lib.SmallJoins
import Derived.Handy
import Derived.OwnWalk
import Derived.Test.YtfpopbbmnbehiaaGreatDoorC01

namespace Go.Proofs.YtfpopbbmnbehiaaGreatDoor
set_option maxRecDepth 100000
set_option maxHeartbeats 16000000
open Go.RowKit Go.ChangeShapes Go.WideShapes

theorem bel_trans {a b c:World} (h:Below a.heap.size a b) (k:Below b.heap.size b c):Below a.heap.size a c:=h.trans (k.mono h.size)

abbrev I3:=Int × Int × Int

def I3.fits (x:I3):Prop:=(Lit.int .i64 x.1).wf=true∧(Lit.int .i64 x.2.1).wf=true∧(Lit.int .i64 x.2.2).wf=true

def I3.val (x:I3):Value:=.agg #[.int .i64 x.1,.int .i64 x.2.1,.int .i64 x.2.2]

def Instrs (w:World) (a:Option Addr) (len cap:Nat) (xs:List I3):Prop:=
 xs.length=len∧len≤cap∧cap≤maxLen∧(∀ x ∈ xs,I3.fits x) ∧
 (len=0∨∃ b off,a=some ⟨b,off,none⟩∧b<w.heap.size∧∀ t,t<len →
  w.cell? ⟨b,off+t*3,none⟩=some (.int .i64 (xs.getD t (0,0,0)).1) ∧
  w.cell? ⟨b,off+t*3+1,none⟩=some (.int .i64 (xs.getD t (0,0,0)).2.1) ∧
  w.cell? ⟨b,off+t*3+2,none⟩=some (.int .i64 (xs.getD t (0,0,0)).2.2))

def Codes (w:World) (a:Option Addr) (len cap:Nat) (P:List (List I3)):Prop:=
 P.length=len∧len≤cap∧cap≤maxLen ∧
 (len=0∨∃ b off,a=some ⟨b,off,none⟩∧b<w.heap.size∧∀ t,t<len →
  ∃ a' len' cap',w.cell? ⟨b,off+t,none⟩=some (.slice a' len' cap')∧Instrs w a' len' cap' (P.getD t []))

theorem Instrs.below {w w':World} {a:Option Addr} {len cap:Nat} {xs:List I3} (h:Instrs w a len cap xs) (hb:Below w.heap.size w w'):Instrs w' a len cap xs:=by
 obtain ⟨h1,h2,h3,hf,h4⟩:=h
 refine ⟨h1,h2,h3,hf,?_⟩
 rcases h4 with h4 | ⟨b,off,ha,hlt,hc⟩
 ·exact .inl h4
 ·refine .inr ⟨b,off,ha,by have:=hb.size;omega,fun t ht=>?_⟩
  obtain ⟨c0,c1,c2⟩:=hc t ht
  exact ⟨by rw [hb.cell (p:=⟨b,_,none⟩) hlt];exact c0,by rw [hb.cell (p:=⟨b,_,none⟩) hlt];exact c1,by rw [hb.cell (p:=⟨b,_,none⟩) hlt];exact c2⟩

theorem Codes.below {w w':World} {a:Option Addr} {len cap:Nat} {P:List (List I3)} (h:Codes w a len cap P) (hb:Below w.heap.size w w'):Codes w' a len cap P:=by
 obtain ⟨h1,h2,h3,h4⟩:=h
 refine ⟨h1,h2,h3,?_⟩
 rcases h4 with h4 | ⟨b,off,ha,hlt,hc⟩
 ·exact .inl h4
 ·refine .inr ⟨b,off,ha,by have:=hb.size;omega,fun t ht=>?_⟩
  obtain ⟨a',l',c',hcell,hi⟩:=hc t ht
  exact ⟨a',l',c',by rw [hb.cell (p:=⟨b,_,none⟩) hlt];exact hcell,hi.below hb⟩

section
variable {H : Type} {enc : TypeId × Value → H} {P : Program} {w : World} {base : Nat} {spare : Nat → Bool} {held : Bool}

theorem open_instr_cells {t:TypeId} {fuel:Nat} {F0 F1 F2:Field} {cs:List Value} {x:DataW H × List MemPlace}
  (ht:P.underlying t=some (.struct #[F0,F1,F2])) (hone:Go.Deep.oneCellFields P #[F0,F1,F2]=true) (hC:P.cellsOf t=3)
  (i0:P.underlying F0.type=some (.int .i64)) (i1:P.underlying F1.type=some (.int .i64)) (i2:P.underlying F2.type=some (.int .i64))
  (h:DataW.trod enc P w base spare held fuel t cs=some x):∃ y:I3,cs=[.int .i64 y.1,.int .i64 y.2.1,.int .i64 y.2.2]∧I3.fits y:=by
 obtain ⟨y0,y1,y2,n,hx,hl,h0,h1,h2⟩:=Go.Deep.trod_struct3 ht h
 rw [hC] at hl
 obtain ⟨o0,k0⟩:=Go.Deep.hone_of hone 0 F0 rfl
 obtain ⟨o1,k1⟩:=Go.Deep.hone_of hone 1 F1 rfl
 obtain ⟨o2,k2⟩:=Go.Deep.hone_of hone 2 F2 rfl
 match cs,hl with
 | [c0,c1,c2],_ =>
  simp only [o0,k0] at h0
  simp only [o1,k1] at h1
  simp only [o2,k2] at h2
  obtain ⟨m0,e0,_,f0⟩:=DataW.trod_int i0 h0
  obtain ⟨m1,e1,_,f1⟩:=DataW.trod_int i1 h1
  obtain ⟨m2,e2,_,f2⟩:=DataW.trod_int i2 h2
  simp at e0 e1 e2
  exact ⟨(m0,m1,m2),by simp [e0,e1,e2],f0,f1,f2⟩

theorem open_instrs {t e:TypeId} {fuel:Nat} {F0 F1 F2:Field} {v:Value} {x:DataW H × List MemPlace}
  (hs:P.underlying t=some (.slice e)) (ht:P.underlying e=some (.struct #[F0,F1,F2])) (hone:Go.Deep.oneCellFields P #[F0,F1,F2]=true) (hC:P.cellsOf e=3)
  (i0:P.underlying F0.type=some (.int .i64)) (i1:P.underlying F1.type=some (.int .i64)) (i2:P.underlying F2.type=some (.int .i64))
  (h:DataW.trod enc P w base spare held fuel t [v]=some x):∃ a len cap xs,v=.slice a len cap∧Instrs w a len cap xs:=by
 rcases Go.Deep.open_slice hs h with ⟨hcs,_⟩ | ⟨a,len,cap,m,n,D,Pl,hcs,_,hl,hm,hmm,_,hx⟩
 ·simp at hcs
  exact ⟨none,0,0,[],hcs,rfl,Nat.le_refl _,by unfold maxLen;omega,by simp,.inl rfl⟩
 ·simp at hcs
  have hlm:len≤m:=by rw [hmm];split<;>omega
  obtain ⟨Y,hY⟩:=Go.Deep.choose_lt (α:=I3) (n:=len) (p:=fun i y=>w.cells? base (a.add (i*3)) 3=some [.int .i64 y.1,.int .i64 y.2.1,.int .i64 y.2.2]∧I3.fits y) (fun i hi=>by
   obtain ⟨cs',h1,h2⟩:=hx i (by omega)
   rw [hC] at h1
   obtain ⟨y,hy,hf⟩:=open_instr_cells ht hone hC i0 i1 i2 h2
   exact ⟨y,by rw [h1,hy],hf⟩)
  refine ⟨some a,len,cap,(List.range len).map Y,hcs,by simp,hl,hm,?_,?_⟩
  ·intro z hz
   obtain ⟨i,hi,rfl⟩:=List.mem_map.1 hz
   exact (hY i (List.mem_range.1 hi)).2
  ·rcases Nat.eq_zero_or_pos len with h0 | h0
   ·exact .inl h0
   right
   obtain ⟨b,off,spot⟩:=a
   have hc:=(World.cells?_some (hY 0 h0).1).2.2 0 (by omega)
   have hspot:spot=none:=by simpa [Addr.add] using World.cell?_spot hc
   subst hspot
   have e:∀ i,(⟨b,off,none⟩:Addr).add i=⟨b,off+i,none⟩:=fun i=>by unfold Addr.add;split<;>simp_all
   have e':∀ i j,(⟨b,off+i,none⟩:Addr).add j=⟨b,off+i+j,none⟩:=fun i j=>by unfold Addr.add;split<;>simp_all
   have hall:∀ i,i<len→w.cell? ⟨b,off+i*3,none⟩=some (.int .i64 (((List.range len).map Y).getD i (0,0,0)).1) ∧
     w.cell? ⟨b,off+i*3+1,none⟩=some (.int .i64 (((List.range len).map Y).getD i (0,0,0)).2.1) ∧
     w.cell? ⟨b,off+i*3+2,none⟩=some (.int .i64 (((List.range len).map Y).getD i (0,0,0)).2.2):=by
    intro i hi
    have hcs:=(World.cells?_some (hY i hi).1).2.2
    have g:((List.range len).map Y).getD i (0,0,0)=Y i:=by simp [List.getD,hi]
    rw [g]
    have c0:=hcs 0 (by omega)
    have c1:=hcs 1 (by omega)
    have c2:=hcs 2 (by omega)
    rw [e,e'] at c0 c1 c2
    exact ⟨by simpa using c0,by simpa using c1,by simpa using c2⟩
   exact ⟨b,off,rfl,lt_of_cell (hall 0 h0).1,hall⟩

theorem open_codes {s t e:TypeId} {fuel:Nat} {F0 F1 F2:Field} {v:Value} {x:DataW H × List MemPlace}
  (hss:P.underlying s=some (.slice t)) (h1:P.cellsOf t=1)
  (hs:P.underlying t=some (.slice e)) (ht:P.underlying e=some (.struct #[F0,F1,F2])) (hone:Go.Deep.oneCellFields P #[F0,F1,F2]=true) (hC:P.cellsOf e=3)
  (i0:P.underlying F0.type=some (.int .i64)) (i1:P.underlying F1.type=some (.int .i64)) (i2:P.underlying F2.type=some (.int .i64))
  (h:DataW.trod enc P w base spare held fuel s [v]=some x):∃ a len cap xss,v=.slice a len cap∧Codes w a len cap xss:=by
 rcases Go.Deep.open_slice1 hss h1 h with ⟨hcs,_⟩ | ⟨a,len,cap,m,n,V,D,Pl,hcs,_,hl,hm,hmm,_,hx⟩
 ·simp at hcs
  exact ⟨none,0,0,[],hcs,rfl,Nat.le_refl _,by unfold maxLen;omega,.inl rfl⟩
 ·simp at hcs
  have hlm:len≤m:=by rw [hmm];split<;>omega
  obtain ⟨Y,hY⟩:=Go.Deep.choose_lt (α:=List I3) (n:=len) (p:=fun i y=>∃ a' len' cap',w.cell? (a.add i)=some (.slice a' len' cap')∧Instrs w a' len' cap' y) (fun i hi=>by
   obtain ⟨hc,ho⟩:=hx i (by omega)
   obtain ⟨a',l',c',xs,hv,hi'⟩:=open_instrs hs ht hone hC i0 i1 i2 ho
   exact ⟨xs,a',l',c',by rw [hc,hv],hi'⟩)
  refine ⟨some a,len,cap,(List.range len).map Y,hcs,by simp,hl,hm,?_⟩
  rcases Nat.eq_zero_or_pos len with h0 | h0
  ·exact .inl h0
  right
  obtain ⟨b,off,spot⟩:=a
  obtain ⟨_,_,_,hc,_⟩:=hY 0 h0
  have hspot:spot=none:=by simpa [Addr.add] using World.cell?_spot hc
  subst hspot
  have e:∀ i,(⟨b,off,none⟩:Addr).add i=⟨b,off+i,none⟩:=fun i=>by unfold Addr.add;split<;>simp_all
  have hall:∀ i,i<len→∃ a' len' cap',w.cell? ⟨b,off+i,none⟩=some (.slice a' len' cap')∧Instrs w a' len' cap' (((List.range len).map Y).getD i []):=by
   intro i hi
   have g:((List.range len).map Y).getD i []=Y i:=by simp [List.getD,hi]
   rw [g,← e]
   exact hY i hi
  obtain ⟨_,_,_,hc0,_⟩:=hall 0 h0
  exact ⟨b,off,rfl,lt_of_cell hc0,hall⟩
end

theorem open_laws_Program {H:Type} {enc:TypeId × Value→H} {w:World} {base:Nat} {spare:Nat→Bool} {held:Bool} {r:Reach} {b0:Nat} {v:Value} {d:DataW H} {p:List MemPlace}
  (hv:Value.okWide Tryz.prog w r b0 64 v) (h:DataW.Trod enc Tryz.prog w base spare held 64 v d p):∃ a len cap xss,v=.agg #[.slice a len cap]∧Codes w a len cap xss:=by
 obtain ⟨cs,rfl,hsz⟩:=okWide_struct Tryz.underlying64 hv
 have hsz':cs.size=1:=hsz.trans (by kernel_rfl)
 obtain ⟨fuel,hf⟩:=h
 obtain ⟨y0,n,_,_,h0⟩:=trod_struct1 Tryz.underlying64 hf
 obtain ⟨c,rfl⟩:∃ c,cs=#[c]:=by
  obtain ⟨l⟩:=cs
  match l,hsz' with
  | [c],_=>exact ⟨c,rfl⟩
 have hk:Tryz.prog.cellsOf 62=1:=by kernel_rfl
 simp only [Value.cells,hk] at h0
 obtain ⟨a,len,cap,xss,hc,hC⟩:=open_codes Tryz.underlying62 (by kernel_rfl) Tryz.underlying191 Tryz.underlying214 (by kernel_rfl) (by kernel_rfl) Tryz.underlying3 Tryz.underlying3 Tryz.underlying3 h0
 exact ⟨a,len,cap,xss,by rw [hc],hC⟩

open Go.RowKit Go.ChangeShapes Go.WideShapes Go.Joins

abbrev V4:=List Int × List Int × List Int × List Int
abbrev Sl:=Option Addr × Nat × Nat
def Sl.val (s:Sl):Value:=.slice s.1 s.2.1 s.2.2
abbrev S4:=Sl × Sl × Sl × Sl
def S4.val (s:S4):Value:=.agg #[.slice s.1.1 s.1.2.1 s.1.2.2,.slice s.2.1.1 s.2.1.2.1 s.2.1.2.2,.slice s.2.2.1.1 s.2.2.1.2.1 s.2.2.1.2.2,.slice s.2.2.2.1 s.2.2.2.2.1 s.2.2.2.2.2]
def SlInts (w:World) (s:Sl) (zs:List Int):Prop:=Ints .i64 w s.1 s.2.1 s.2.2 zs∧∀ z ∈ zs,(Lit.int .i64 z).wf=true
def Vmem (w:World) (s:S4) (m:V4):Prop:=SlInts w s.1 m.1∧SlInts w s.2.1 m.2.1∧SlInts w s.2.2.1 m.2.2.1∧SlInts w s.2.2.2 m.2.2.2

theorem SlInts.below {w w':World} {s:Sl} {zs:List Int} (h:SlInts w s zs) (hb:Below w.heap.size w w'):SlInts w' s zs:=⟨h.1.below hb,h.2⟩
theorem Vmem.below {w w':World} {s:S4} {m:V4} (h:Vmem w s m) (hb:Below w.heap.size w w'):Vmem w' s m:=⟨h.1.below hb,h.2.1.below hb,h.2.2.1.below hb,h.2.2.2.below hb⟩

section
variable {H : Type} {enc : TypeId × Value → H} {P : Program} {w : World} {base : Nat} {spare : Nat → Bool} {held : Bool}
theorem open_slI {t e:TypeId} {fuel:Nat} {v:Value} {x:DataW H × List MemPlace} (hs:P.underlying t=some (.slice e)) (he:P.underlying e=some (.int .i64)) (hC:P.cellsOf e=1)
  (h:DataW.trod enc P w base spare held fuel t [v]=some x):∃ (s:Sl) (zs:List Int),v=s.val∧SlInts w s zs:=by
 rcases Go.ChangeShapes.open_ints hs he hC h with ⟨hcs,_⟩ | ⟨a,len,cap,zs,hcs,_,hl,hm,hz,_,hcell,hwf⟩
 ·simp at hcs
  exact ⟨(none,0,0),[],hcs,⟨rfl,Nat.le_refl _,Nat.zero_le _,.inl rfl⟩,by simp⟩
 ·simp at hcs
  have hle:len≤zs.length:=by rw [hz];split<;>omega
  refine ⟨(some a,len,cap),zs.take len,hcs,⟨by simp;omega,hl,hm,?_⟩,fun z hz=>hwf z (List.mem_of_mem_take hz)⟩
  rcases Nat.eq_zero_or_pos len with h0 | h0
  ·exact .inl h0
  ·right
   obtain ⟨b,off,spot⟩:=a
   have hc:=hcell 0 (by omega)
   have hspot:spot=none:=by simpa [Addr.add] using World.cell?_spot hc
   subst hspot
   have hall:∀ t,t<len→w.cell? ⟨b,off+t,none⟩=some (.int .i64 ((zs.take len).getD t 0)):=by
    intro t ht
    have:=hcell t (by omega)
    have e:(⟨b,off,none⟩:Addr).add t=⟨b,off+t,none⟩:=by unfold Addr.add;split<;>simp_all
    rw [e] at this
    rw [this]
    simp [List.getD,ht]
   exact ⟨b,off,rfl,lt_of_cell (hall 0 h0),hall⟩
end

theorem open_laws_Vm {H:Type} {enc:TypeId × Value→H} {w:World} {base:Nat} {spare:Nat→Bool} {held:Bool} {r:Reach} {b0:Nat} {v:Value} {d:DataW H} {p:List MemPlace}
  (hv:Value.okWide Tryz.prog w r b0 71 v) (h:DataW.Trod enc Tryz.prog w base spare held 71 v d p):∃ (s:S4) (m:V4),v=s.val∧Vmem w s m:=by
 obtain ⟨cs,rfl,hsz⟩:=okWide_struct Tryz.underlying71 hv
 have hsz':cs.size=4:=hsz.trans (by kernel_rfl)
 obtain ⟨fuel,hf⟩:=h
 obtain ⟨y0,y1,y2,y3,n,_,_,h0,h1,h2,h3⟩:=trod_struct4 Tryz.underlying71 hf
 obtain ⟨v0,v1,v2,v3,rfl⟩:=array4 hsz'
 have hk:Tryz.prog.cellsOf 31=1:=by kernel_rfl
 simp only [Value.cells,hk] at h0 h1 h2 h3
 obtain ⟨s0,m0,e0,g0⟩:=open_slI Tryz.underlying31 Tryz.underlying3 (by kernel_rfl) h0
 obtain ⟨s1,m1,e1,g1⟩:=open_slI Tryz.underlying31 Tryz.underlying3 (by kernel_rfl) h1
 obtain ⟨s2,m2,e2,g2⟩:=open_slI Tryz.underlying31 Tryz.underlying3 (by kernel_rfl) h2
 obtain ⟨s3,m3,e3,g3⟩:=open_slI Tryz.underlying31 Tryz.underlying3 (by kernel_rfl) h3
 exact ⟨(s0,s1,s2,s3),(m0,m1,m2,m3),by rw [e0,e1,e2,e3];rfl,g0,g1,g2,g3⟩

open Go.RowKit

theorem toInstr_same (x:I3) (w:World):Calls Tryz.prog 158 #[x.val] w fun e w'=>e=.returned x.val∧Below w.heap.size w w':=by
 obtain ⟨p,q,r⟩:=x
 unfold I3.val
 go_enter Tryz.func158,Tryz.ntmps158
 go_wp2
 go_returns
 exact ⟨rfl,by go_grown⟩

theorem eqInstr_same (x:I3) (w:World):Calls Tryz.prog 159 #[x.val,x.val] w fun e w'=>e=.returned (.bool true)∧Below w.heap.size w w':=by
 obtain ⟨p,q,r⟩:=x
 unfold I3.val
 go_enter Tryz.func159,Tryz.ntmps159
 go_wp2
 go_returns
 exact ⟨rfl,by go_grown⟩

def less (left n:Int):Int:=if left - n<0 then -1 else left - n

theorem szInstrS_less (a:Option Addr) (len cap:Nat) (left:Int) (w:World) (hl:len≤maxLen) (h0:0≤left) (h1:left≤2 ^ 20) :
  Calls Tryz.prog 134 #[.slice a len cap,.int .i64 left] w fun e w'=>e=.returned (.int .i64 (less left len))∧w=w':=by
 unfold maxLen at hl
 unfold less
 go_enter Tryz.func134,Tryz.ntmps134
 by_cases h:left - len<0
 ·rw [if_pos h]
  go_wp2
  go_ret
  exact ⟨rfl,rfl⟩
 ·rw [if_neg h]
  go_wp2
  go_ret
  exact ⟨rfl,rfl⟩

def lessAll (left:Int):List (List I3)→Int
 | []=>left
 | r::rs=>if left<r.length then -1 else lessAll (left - r.length) rs

theorem lessAll_neg_or:∀ (rows:List (List I3)) (left:Int),0≤left→lessAll left rows=-1∨(0≤lessAll left rows∧lessAll left rows≤left)
 | [],left,h=>.inr ⟨h,Int.le_refl _⟩
 | r::rs,left,h=>by
  unfold lessAll
  split
  ·exact .inl rfl
  ·rcases lessAll_neg_or rs (left - r.length) (by omega) with h' | ⟨h1,h2⟩
   ·exact .inl h'
   ·exact .inr ⟨h1,by omega⟩

theorem lessAll_step {rows:List (List I3)} {k:Nat} {l:Int} (hk:k<rows.length):lessAll l (rows.drop k)=if l<(rows.getD k []).length then -1 else lessAll (l - (rows.getD k []).length) (rows.drop (k+1)):=by
 rw [List.drop_eq_getElem_cons hk]
 show (if l<(rows[k]).length then -1 else lessAll (l - (rows[k]).length) (rows.drop (k+1)))=_
 simp [List.getD,hk]

def sizeLeft (left:Int) (rows:List (List I3)):Int:=if left<rows.length then -1 else lessAll (left - rows.length) rows

theorem sizeLeft_or (rows:List (List I3)) (left:Int) (_h:0≤left):sizeLeft left rows=-1∨(0≤sizeLeft left rows∧sizeLeft left rows≤left):=by
 unfold sizeLeft
 split
 ·exact .inl rfl
 ·rcases lessAll_neg_or rows (left - rows.length) (by omega) with h' | h'
  ·exact .inl h'
  ·exact .inr ⟨h'.1,by omega⟩

theorem szInstrSS_less (a:Option Addr) (len cap:Nat) (rows:List (List I3)) (left:Int) (w:World) (h:Codes w a len cap rows) (h0:0≤left) (h1:left≤2 ^ 20) :
  Calls Tryz.prog 89 #[.slice a len cap,.int .i64 left] w fun e w'=>e=.returned (.int .i64 (sizeLeft left rows))∧Below w.heap.size w w':=by
 obtain ⟨hlen,hlc,hcm,hcase⟩:=h
 unfold maxLen at hcm
 unfold sizeLeft
 rw [hlen]
 go_enter Tryz.func89,Tryz.ntmps89
 by_cases hlt:left - len<0
 ·rw [if_pos (by omega)]
  go_wp2
  go_ret
  exact ⟨rfl,Below.refl _ _⟩
 ·rw [if_neg (by omega)]
  by_cases hz:len=0
  ·subst hz
   obtain rfl:rows=[]:=List.length_eq_zero_iff.1 hlen
   go_wp2
   refine wp_loop_rounds 1 ?_
   rw [rounds_succ]
   go_wp2
   go_ret
   exact ⟨by simp [lessAll],Below.refl _ _⟩
  ·rcases hcase with h0' | ⟨b,off,rfl,hblt,hcell⟩
   ·exact absurd h0' hz
   obtain ⟨fin,hfin⟩:∃ fin,fin=lessAll (left - len) rows:=⟨_,rfl⟩
   rw [← hfin]
   have hfin':Hid (fin=lessAll (left - len) (rows.drop 0)):=hfin
   clear hfin
   go_wp2
   go_loopw [1,5] (fun sl si wr=>∃ (k:Nat) (l:Int),k≤len∧si=.int .i64 k∧sl=.int .i64 l∧0≤l∧l≤2 ^ 20∧Hid (fin=lessAll l (rows.drop k))∧Below w.heap.size w wr) (fun _ si _=>len - (intOf si).toNat)
   case atStart=>exact ⟨0,left - len,by omega,rfl,by go_num,by omega,by omega,hfin',Below.refl _ _⟩
   case round =>
    obtain ⟨k,l,hk,rfl,rfl,hl0,hl1,hH,hb⟩:=hrel
    by_cases hlt':k<len
    ·obtain ⟨a',len',cap',hc,hi⟩:=hcell k hlt'
     have hr:(rows.getD k []).length=len':=hi.1
     have hm:len'≤maxLen:=Nat.le_trans hi.2.1 hi.2.2.1
     have hc':wr.cell? ⟨b,off+k,none⟩=some (.slice a' len' cap'):=by rw [hb.cell (p:=⟨b,_,none⟩) hblt];exact hc
     have hst:=lessAll_step (rows:=rows) (k:=k) (l:=l) (by omega)
     rw [hr] at hst
     have hst':Hid (lessAll l (rows.drop k)=if l<len' then -1 else lessAll (l - len') (rows.drop (k+1))):=hst
     clear hst hcell hc hi hr
     have hlt2:(k:Int)<(len:Int):=by omega
     by_cases hll:l - len'<0
     ·have hless:less l len'=-1:=if_pos hll
      have hff:fin=-1:=by rw [hH.out,hst'.out,if_pos (by omega)]
      subst hff
      clear hH hst'
      go_wp2_with (go_at_call 134;refine (szInstrS_less _ _ _ _ _ hm hl0 hl1).mono ?_;rintro e w1 ⟨rfl,rfl⟩;rw [hless])
      go_ret
      exact ⟨rfl,hb⟩
     ·have hless:less l len'=l - len':=if_neg hll
      have hH':Hid (fin=lessAll (l - len') (rows.drop (k+1))):=by rw [Hid,hH.out,hst'.out,if_neg (by omega)]
      clear hH hst'
      go_wp2_with (go_at_call 134;refine (szInstrS_less _ _ _ _ _ hm hl0 hl1).mono ?_;rintro e w1 ⟨rfl,rfl⟩;rw [hless])
      go_roundw
      case rel=>exact ⟨k+1,l - len',by omega,by go_num,rfl,by omega,by omega,hH',hb⟩
      case measure=>simp [intOf];omega
    ·obtain rfl:k=len:=by omega
     have hd:lessAll l (rows.drop k)=l:=by rw [List.drop_eq_nil_of_le (by omega)];rfl
     have hff:l=fin:=(hH.out.trans hd).symm
     subst hff
     clear hH hd hcell
     go_wp2
     go_ret
     exact ⟨rfl,hb⟩

theorem szProgram_less (a:Option Addr) (len cap:Nat) (rows:List (List I3)) (left:Int) (w:World) (h:Codes w a len cap rows) (h0:0≤left) (h1:left≤2 ^ 20) :
  Calls Tryz.prog 35 #[.agg #[.slice a len cap],.int .i64 left] w fun e w'=>e=.returned (.int .i64 (sizeLeft left rows))∧Below w.heap.size w w':=by
 obtain ⟨fin,hfin⟩:∃ fin,fin=sizeLeft left rows:=⟨_,rfl⟩
 rcases (hfin▸sizeLeft_or rows left h0:fin=-1∨0≤fin∧fin≤left) with hf | ⟨hf,hf'⟩
 ·rw [← hfin]
  subst hf
  go_enter Tryz.func35,Tryz.ntmps35
  go_wp2_with (go_at_call 89;refine (szInstrSS_less _ _ _ rows _ _ (h.below (by go_grown)) h0 h1).mono ?_;rw [← hfin];clear hfin;rintro e w1 ⟨rfl,hb1⟩)
  go_ret
  exact ⟨rfl,bel_trans (by go_grown) hb1⟩
 ·rw [← hfin]
  go_enter Tryz.func35,Tryz.ntmps35
  go_wp2_with (go_at_call 89;refine (szInstrSS_less _ _ _ rows _ _ (h.below (by go_grown)) h0 h1).mono ?_;rw [← hfin];clear hfin;rintro e w1 ⟨rfl,hb1⟩)
  go_ret
  exact ⟨rfl,bel_trans (by go_grown) hb1⟩


def I3.cells (x:I3):List Value:=[.int .i64 x.1,.int .i64 x.2.1,.int .i64 x.2.2]

def flat (xs:List I3):List Value:=xs.flatMap I3.cells

theorem flat_length (xs:List I3):(flat xs).length=xs.length*3:=by
 induction xs with
 | nil=>rfl
 | cons x xs ih=>simp [flat,I3.cells] at *;omega

theorem flat_take_succ {xs:List I3} {k:Nat} (hk:k<xs.length):flat (xs.take (k+1))=flat (xs.take k)++(xs.getD k (0,0,0)).cells:=by
 unfold flat
 rw [List.take_succ_eq_append_getElem hk,List.flatMap_append]
 simp [List.getD,hk,I3.cells]

theorem set3_take {cs l:List Value} {k:Nat} (a b c:Value) (hl:k*3+3≤cs.length) (ht:cs.take (k*3)=l) :
  (((cs.set (k*3) a).set (k*3+1) b).set (k*3+2) c).take ((k+1)*3)=l++[a,b,c]:=by
 have hll:l.length=k*3:=by rw [← ht,List.length_take];omega
 obtain ⟨x,y,z,rest,hd⟩:∃ x y z rest,cs.drop (k*3)=x::y::z::rest:=by
  match h:cs.drop (k*3),(by rw [List.length_drop];omega:3≤(cs.drop (k*3)).length) with
  | x::y::z::rest,_=>exact ⟨x,y,z,rest,rfl⟩
 have hcs:cs=l++x::y::z::rest:=by rw [← ht,← hd,List.take_append_drop]
 rw [hcs,← hll,List.set_append_right _ _ (Nat.le_refl _),List.set_append_right _ _ (by omega),List.set_append_right _ _ (by omega)]
 rw [show (k+1)*3=l.length+3 by omega,List.take_length_add_append]
 simp [show l.length+1 - l.length=1 by omega,show l.length+2 - l.length=2 by omega]

theorem Instrs.of_owns {w:World} {base e n cap g:Nat} {cs:List Value} {xs:List I3} (h:w.ownsRow base e 3 (.slice (some ⟨g,0,none⟩) n cap) n cs) (hl:xs.length=n) (hf:∀ x ∈ xs,I3.fits x) (hcs:cs=flat xs) :
  Instrs w (some ⟨g,0,none⟩) n cap xs:=by
 have hcell:∀ t,t<n→∀ j,j<3→w.cell? ⟨g,t*3+j,none⟩=((xs.getD t (0,0,0)).cells)[j]?:=by
  intro t ht j hj
  rw [h.cellAt (t*3+j) (by omega),hcs]
  have hsplit:flat xs=flat (xs.take t)++((xs.getD t (0,0,0)).cells++flat (xs.drop (t+1))):=by
   rw [← List.append_assoc,← flat_take_succ (by omega)]
   unfold flat
   rw [← List.flatMap_append,List.take_append_drop]
  have hlt:(flat (xs.take t)).length=t*3:=by rw [flat_length,List.length_take];rw [Nat.min_eq_left (by omega)]
  rw [hsplit,List.getElem?_append_right (by omega),hlt,Nat.add_sub_cancel_left,List.getElem?_append_left (by simp [I3.cells];omega)]
 have hg:=(h.lt g rfl).2
 rcases h.2 with ⟨h0,_⟩ | ⟨g',cap',cur,hv,_,_,hn,hcap,_,_⟩
 ·cases h0
 ·cases hv
  exact ⟨hl,hn,hcap,hf,.inr ⟨g,0,rfl,hg,fun t ht=>⟨by simpa [I3.cells] using hcell t ht 0 (by omega),by simpa [I3.cells] using hcell t ht 1 (by omega),by simpa [I3.cells] using hcell t ht 2 (by omega)⟩⟩⟩

theorem info_instr:(Tryz.prog.info? 144).map (fun i=>(i.zero,i.size,i.bytes))=some (some (.agg #[.int .i64 0,.int .i64 0,.int .i64 0]),3,24):=by kernel_rfl

theorem owns_below {B e k n:Nat} {v:Value} {xs:List Value} {w w':World} (h:w.ownsRow B e k v n xs) (hb:Below w.heap.size w w'):w'.ownsRow B e k v n xs:=by
 refine ⟨h.1,?_⟩
 rcases h.2 with h0 | ⟨g,cap,cur,hv,hB,hg,rest⟩
 ·exact .inl h0
 ·have hlt:g<w.heap.size:=by
   rcases Nat.lt_or_ge g w.heap.size with h' | h'
   ·exact h'
   ·simp [Array.getElem?_eq_none h'] at hg
  exact .inr ⟨g,cap,cur,hv,hB,by rw [hb.block g hlt];exact hg,rest⟩

theorem toInstrS_copy (a:Option Addr) (len cap:Nat) (xs:List I3) (w:World) (h:Instrs w a len cap xs) (hn:len≤1048576) :
  Calls Tryz.prog 135 #[.slice a len cap] w fun e w'=>e=.returned (.slice (some ⟨w.heap.size,0,none⟩) len len) ∧
   (∃ cs,cs=flat xs∧w'.ownsRow w.heap.size 144 3 (.slice (some ⟨w.heap.size,0,none⟩) len len) len cs)∧Below w.heap.size w w':=by
 obtain ⟨i0,hi,hz0,hz1,hz2⟩:=info_parts info_instr
 have hI:=h
 obtain ⟨hl,hlc,hcm,hfit,hcase⟩:=h
 unfold maxLen at hcm
 go_enter Tryz.func135,Tryz.ntmps135
 go_wp2_with (at_make;refine wpList_make_full _ rfl _ _ 88 rfl w.heap.size 144 i0 (.agg #[.int .i64 0,.int .i64 0,.int .i64 0]) 3 Tryz.underlying88 hi hz0 hz1 _ _ _ _ len rfl rfl (by omega) (by omega) ?b2 ?b3 (Nat.le_refl _) ?_)
 case b2=>rw [hz2];omega
 case b3=>unfold maxLen;omega
 intro w0 hown0 hgrow0
 have hb0:Below w.heap.size w w0:=(Below.refl _ _).grown hgrow0 (Nat.le_refl _) (fun k h=>by cases h)
 obtain ⟨cs0,hcs0⟩:∃ cs0,cs0=(madeCells #[Value.int .i64 0,.int .i64 0,.int .i64 0] (len*3)).toList:=⟨_,rfl⟩
 rw [← hcs0] at hown0
 clear hgrow0 hcs0
 go_wp2
 go_loopw [4] (fun si wr=>∃ (k:Nat) (cs:List Value),k≤len∧si=.int .i64 k∧Hid (cs.take (k*3)=flat (xs.take k))∧wr.ownsRow w.heap.size 144 3 (.slice (some ⟨w.heap.size,0,none⟩) len len) len cs∧Below w.heap.size w wr) (fun si _=>len - (intOf si).toNat)
 case atStart=>exact ⟨0,cs0,by omega,rfl,by simp [Hid,flat],hown0,hb0⟩
 case round =>
  obtain ⟨k,cs,hk,rfl,hH,ho,hbel⟩:=hrel
  by_cases hlt:k<len
  ·rcases hcase with h0 | ⟨b,off,rfl,hblt,hcell⟩
   ·omega
   have hlt2:(k:Int)<(len:Int):=by omega
   obtain ⟨c0,c1,c2⟩:=hcell k hlt
   have hstep:=flat_take_succ (xs:=xs) (k:=k) (by omega)
   have hstep':Hid (flat (xs.take (k+1))=flat (xs.take k)++(xs.getD k (0,0,0)).cells):=hstep
   clear hstep hcell
   generalize xs.getD k (0,0,0)=x at c0 c1 c2 hstep'
   have d0:wr.cell? ⟨b,off+k*3,none⟩=some (.int .i64 x.1):=by rw [hbel.cell (p:=⟨b,_,none⟩) hblt];exact c0
   have d1:wr.cell? ⟨b,off+k*3+1,none⟩=some (.int .i64 x.2.1):=by rw [hbel.cell (p:=⟨b,_,none⟩) hblt];exact c1
   have d2:wr.cell? ⟨b,off+k*3+2,none⟩=some (.int .i64 x.2.2):=by rw [hbel.cell (p:=⟨b,_,none⟩) hblt];exact c2
   clear c0 c1 c2
   go_wp2_with fail
   refine (toInstr_same x wr).mono ?_
   rintro e w1 ⟨rfl,hb1⟩
   clear d0 d1 d2
   have ho1:=owns_below ho hb1
   have hbel1:Below w.heap.size w w1:=bel_trans hbel hb1
   clear ho hbel hb1
   obtain ⟨x0,x1,x2⟩:=x
   have hlen:=ho1.1
   have f0:=ho1.frozenAt (k*3)
   have f1:=ho1.frozenAt (k*3+1)
   have f2:=ho1.frozenAt (k*3+2)
   obtain ⟨u0,hu0⟩:∃ u,w1.cell? ⟨w.heap.size,k*3,none⟩=some u:=⟨_,by rw [ho1.cellAt _ (by omega)];exact List.getElem?_eq_getElem (by omega)⟩
   obtain ⟨u1,hu1⟩:∃ u,w1.cell? ⟨w.heap.size,k*3+1,none⟩=some u:=⟨_,by rw [ho1.cellAt _ (by omega)];exact List.getElem?_eq_getElem (by omega)⟩
   obtain ⟨u2,hu2⟩:∃ u,w1.cell? ⟨w.heap.size,k*3+2,none⟩=some u:=⟨_,by rw [ho1.cellAt _ (by omega)];exact List.getElem?_eq_getElem (by omega)⟩
   have R:=(((ho1.stored (k*3) (.int .i64 x0)).1.stored (k*3+1) (.int .i64 x1)).1.stored (k*3+2) (.int .i64 x2)).1
   have hT:Hid ((((cs.set (k*3) (.int .i64 x0)).set (k*3+1) (.int .i64 x1)).set (k*3+2) (.int .i64 x2)).take ((k+1)*3)=flat (xs.take (k+1))):=by
    rw [Hid,hstep'.out]
    exact set3_take _ _ _ (by omega) hH.out
   have hb3:Below w.heap.size w (((w1.setCell ⟨w.heap.size,k*3,none⟩ (.int .i64 x0)).setCell ⟨w.heap.size,k*3+1,none⟩ (.int .i64 x1)).setCell ⟨w.heap.size,k*3+2,none⟩ (.int .i64 x2)):=
    ((hbel1.setCell (Nat.le_refl _) _).setCell (Nat.le_refl _) _).setCell (Nat.le_refl _) _
   clear hH hstep' ho1 hbel1
   generalize ((cs.set (k*3) (.int .i64 x0)).set (k*3+1) (.int .i64 x1)).set (k*3+2) (.int .i64 x2)=cs' at R hT
   unfold I3.val
   go_wp2
   go_roundw
   case rel=>exact ⟨k+1,cs',by omega,by go_num,hT,R,hb3⟩
   case measure=>simp [intOf];omega
  ·obtain rfl:k=len:=by omega
   clear hcase hI
   go_wp2
   go_ret
   refine ⟨rfl,⟨cs,?_,ho⟩,hbel⟩
   have h1:=hH.out
   have h2:=ho.1
   rwa [List.take_of_length_le (by omega),List.take_of_length_le (by omega)] at h1
end Go.Proofs.YtfpopbbmnbehiaaGreatDoor
