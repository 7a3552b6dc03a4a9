/-
  Joined: Prog0, Vm0.
-/
import Derived.Deep.Slices
import Derived.Deep.Strs
import Derived.Deep.Fields
import Derived.ChangeSame
import Derived.ChangeSlices
import Derived.Lib.SmallJoins
import Derived.Test.YtdopgkbegjfhjaaC01

namespace Go.Proofs.Ytdopgkbegjfhjaa
set_option maxRecDepth 100000
set_option maxHeartbeats 16000000
open Go.RowKit Go.ChangeShapes Go.WideShapes

theorem bel_trans {a b c:World} (h:Below a.heap.size a b) (k:Below b.heap.size b c):Below a.heap.size a c:=h.trans (k.mono h.size)

abbrev I3:=Int × Int × Int

def I3.fits (x:I3):Prop:=(Lit.int .i64 x.1).wf=true∧(Lit.int .i64 x.2.1).wf=true∧(Lit.int .i64 x.2.2).wf=true

def I3.val (x:I3):Value:=.agg #[.int .i64 x.1,.int .i64 x.2.1,.int .i64 x.2.2]

def Instrs (w:World) (a:Option Addr) (len cap:Nat) (xs:List I3):Prop:=
 xs.length=len∧len≤cap∧cap≤maxLen∧(∀ x ∈ xs,I3.fits x) ∧
 (len=0∨∃ b off,a=some ⟨b,off,none⟩∧b<w.heap.size∧∀ t,t<len →
  w.cell? ⟨b,off+t*3,none⟩=some (.int .i64 (xs.getD t (0,0,0)).1) ∧
  w.cell? ⟨b,off+t*3+1,none⟩=some (.int .i64 (xs.getD t (0,0,0)).2.1) ∧
  w.cell? ⟨b,off+t*3+2,none⟩=some (.int .i64 (xs.getD t (0,0,0)).2.2))

def Codes (w:World) (a:Option Addr) (len cap:Nat) (P:List (List I3)):Prop:=
 P.length=len∧len≤cap∧cap≤maxLen ∧
 (len=0∨∃ b off,a=some ⟨b,off,none⟩∧b<w.heap.size∧∀ t,t<len →
  ∃ a' len' cap',w.cell? ⟨b,off+t,none⟩=some (.slice a' len' cap')∧Instrs w a' len' cap' (P.getD t []))

theorem Instrs.below {w w':World} {a:Option Addr} {len cap:Nat} {xs:List I3} (h:Instrs w a len cap xs) (hb:Below w.heap.size w w'):Instrs w' a len cap xs:=by
 obtain ⟨h1,h2,h3,hf,h4⟩:=h
 refine ⟨h1,h2,h3,hf,?_⟩
 rcases h4 with h4 | ⟨b,off,ha,hlt,hc⟩
 ·exact .inl h4
 ·refine .inr ⟨b,off,ha,by have:=hb.size;omega,fun t ht=>?_⟩
  obtain ⟨c0,c1,c2⟩:=hc t ht
  exact ⟨by rw [hb.cell (p:=⟨b,_,none⟩) hlt];exact c0,by rw [hb.cell (p:=⟨b,_,none⟩) hlt];exact c1,by rw [hb.cell (p:=⟨b,_,none⟩) hlt];exact c2⟩

theorem Codes.below {w w':World} {a:Option Addr} {len cap:Nat} {P:List (List I3)} (h:Codes w a len cap P) (hb:Below w.heap.size w w'):Codes w' a len cap P:=by
 obtain ⟨h1,h2,h3,h4⟩:=h
 refine ⟨h1,h2,h3,?_⟩
 rcases h4 with h4 | ⟨b,off,ha,hlt,hc⟩
 ·exact .inl h4
 ·refine .inr ⟨b,off,ha,by have:=hb.size;omega,fun t ht=>?_⟩
  obtain ⟨a',l',c',hcell,hi⟩:=hc t ht
  exact ⟨a',l',c',by rw [hb.cell (p:=⟨b,_,none⟩) hlt];exact hcell,hi.below hb⟩

section
variable {H : Type} {enc : TypeId × Value → H} {P : Program} {w : World} {base : Nat} {spare : Nat → Bool} {held : Bool}

theorem open_instr_cells {t:TypeId} {fuel:Nat} {F0 F1 F2:Field} {cs:List Value} {x:DataW H × List MemPlace}
  (ht:P.underlying t=some (.struct #[F0,F1,F2])) (hone:Go.Deep.oneCellFields P #[F0,F1,F2]=true) (hC:P.cellsOf t=3)
  (i0:P.underlying F0.type=some (.int .i64)) (i1:P.underlying F1.type=some (.int .i64)) (i2:P.underlying F2.type=some (.int .i64))
  (h:DataW.trod enc P w base spare held fuel t cs=some x):∃ y:I3,cs=[.int .i64 y.1,.int .i64 y.2.1,.int .i64 y.2.2]∧I3.fits y:=by
 obtain ⟨y0,y1,y2,n,hx,hl,h0,h1,h2⟩:=Go.Deep.trod_struct3 ht h
 rw [hC] at hl
 obtain ⟨o0,k0⟩:=Go.Deep.hone_of hone 0 F0 rfl
 obtain ⟨o1,k1⟩:=Go.Deep.hone_of hone 1 F1 rfl
 obtain ⟨o2,k2⟩:=Go.Deep.hone_of hone 2 F2 rfl
 match cs,hl with
 | [c0,c1,c2],_ =>
  simp only [o0,k0] at h0
  simp only [o1,k1] at h1
  simp only [o2,k2] at h2
  obtain ⟨m0,e0,_,f0⟩:=DataW.trod_int i0 h0
  obtain ⟨m1,e1,_,f1⟩:=DataW.trod_int i1 h1
  obtain ⟨m2,e2,_,f2⟩:=DataW.trod_int i2 h2
  simp at e0 e1 e2
  exact ⟨(m0,m1,m2),by simp [e0,e1,e2],f0,f1,f2⟩

theorem open_instrs {t e:TypeId} {fuel:Nat} {F0 F1 F2:Field} {v:Value} {x:DataW H × List MemPlace}
  (hs:P.underlying t=some (.slice e)) (ht:P.underlying e=some (.struct #[F0,F1,F2])) (hone:Go.Deep.oneCellFields P #[F0,F1,F2]=true) (hC:P.cellsOf e=3)
  (i0:P.underlying F0.type=some (.int .i64)) (i1:P.underlying F1.type=some (.int .i64)) (i2:P.underlying F2.type=some (.int .i64))
  (h:DataW.trod enc P w base spare held fuel t [v]=some x):∃ a len cap xs,v=.slice a len cap∧Instrs w a len cap xs:=by
 rcases Go.Deep.open_slice hs h with ⟨hcs,_⟩ | ⟨a,len,cap,m,n,D,Pl,hcs,_,hl,hm,hmm,_,hx⟩
 ·simp at hcs
  exact ⟨none,0,0,[],hcs,rfl,Nat.le_refl _,by unfold maxLen;omega,by simp,.inl rfl⟩
 ·simp at hcs
  have hlm:len≤m:=by rw [hmm];split<;>omega
  obtain ⟨Y,hY⟩:=Go.Deep.choose_lt (α:=I3) (n:=len) (p:=fun i y=>w.cells? base (a.add (i*3)) 3=some [.int .i64 y.1,.int .i64 y.2.1,.int .i64 y.2.2]∧I3.fits y) (fun i hi=>by
   obtain ⟨cs',h1,h2⟩:=hx i (by omega)
   rw [hC] at h1
   obtain ⟨y,hy,hf⟩:=open_instr_cells ht hone hC i0 i1 i2 h2
   exact ⟨y,by rw [h1,hy],hf⟩)
  refine ⟨some a,len,cap,(List.range len).map Y,hcs,by simp,hl,hm,?_,?_⟩
  ·intro z hz
   obtain ⟨i,hi,rfl⟩:=List.mem_map.1 hz
   exact (hY i (List.mem_range.1 hi)).2
  ·rcases Nat.eq_zero_or_pos len with h0 | h0
   ·exact .inl h0
   right
   obtain ⟨b,off,spot⟩:=a
   have hc:=(World.cells?_some (hY 0 h0).1).2.2 0 (by omega)
   have hspot:spot=none:=by simpa [Addr.add] using World.cell?_spot hc
   subst hspot
   have e:∀ i,(⟨b,off,none⟩:Addr).add i=⟨b,off+i,none⟩:=fun i=>by unfold Addr.add;split<;>simp_all
   have e':∀ i j,(⟨b,off+i,none⟩:Addr).add j=⟨b,off+i+j,none⟩:=fun i j=>by unfold Addr.add;split<;>simp_all
   have hall:∀ i,i<len→w.cell? ⟨b,off+i*3,none⟩=some (.int .i64 (((List.range len).map Y).getD i (0,0,0)).1) ∧
     w.cell? ⟨b,off+i*3+1,none⟩=some (.int .i64 (((List.range len).map Y).getD i (0,0,0)).2.1) ∧
     w.cell? ⟨b,off+i*3+2,none⟩=some (.int .i64 (((List.range len).map Y).getD i (0,0,0)).2.2):=by
    intro i hi
    have hcs:=(World.cells?_some (hY i hi).1).2.2
    have g:((List.range len).map Y).getD i (0,0,0)=Y i:=by simp [List.getD,hi]
    rw [g]
    have c0:=hcs 0 (by omega)
    have c1:=hcs 1 (by omega)
    have c2:=hcs 2 (by omega)
    rw [e,e'] at c0 c1 c2
    exact ⟨by simpa using c0,by simpa using c1,by simpa using c2⟩
   exact ⟨b,off,rfl,lt_of_cell (hall 0 h0).1,hall⟩

end

open Go.RowKit Go.ChangeShapes Go.WideShapes Go.Joins

abbrev V4:=List Int × List Int × List Int × List Int
abbrev Sl:=Option Addr × Nat × Nat
abbrev S4:=Sl × Sl × Sl × Sl
def SlInts (w:World) (s:Sl) (zs:List Int):Prop:=Ints .i64 w s.1 s.2.1 s.2.2 zs∧∀ z ∈ zs,(Lit.int .i64 z).wf=true
def Vmem (w:World) (s:S4) (m:V4):Prop:=SlInts w s.1 m.1∧SlInts w s.2.1 m.2.1∧SlInts w s.2.2.1 m.2.2.1∧SlInts w s.2.2.2 m.2.2.2

theorem SlInts.below {w w':World} {s:Sl} {zs:List Int} (h:SlInts w s zs) (hb:Below w.heap.size w w'):SlInts w' s zs:=⟨h.1.below hb,h.2⟩
theorem Vmem.below {w w':World} {s:S4} {m:V4} (h:Vmem w s m) (hb:Below w.heap.size w w'):Vmem w' s m:=⟨h.1.below hb,h.2.1.below hb,h.2.2.1.below hb,h.2.2.2.below hb⟩

section
variable {H : Type} {enc : TypeId × Value → H} {P : Program} {w : World} {base : Nat} {spare : Nat → Bool} {held : Bool}
end

end Go.Proofs.Ytdopgkbegjfhjaa
