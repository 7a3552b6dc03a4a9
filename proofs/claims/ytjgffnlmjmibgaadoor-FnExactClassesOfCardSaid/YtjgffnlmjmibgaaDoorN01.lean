/-
  Joined: Tk, Ints0, Prog0, Vm0, Prog1, Prog2, Prog3.
-/
import Derived.Test.YtjgffnlmjmibgaaDoorProg
import Derived.Deep.RegionHeld3
import Derived.KernelRfl
import Derived.Tactics
import Derived.WalkKit
import Derived.WalkSpells
import Derived.WalkLawsBesides
import Derived.RegionTactic
import Derived.BigQuiet
import Derived.Deep.QuietTactic
import Derived.Deep.Slices
import Derived.Deep.Strs
import Derived.Deep.Fields
import Derived.ChangeSame
import Derived.ChangeSlices
import Derived.Lib.SmallJoins
import Derived.Handy
import Derived.OwnWalk

namespace Go.Proofs.YtjgffnlmjmibgaaDoor
set_option maxRecDepth 100000
set_option maxHeartbeats 16000000
set_option linter.unusedVariables false

theorem tkm {P : Program} {ops : Array Oper} {Q : Exit → Act → World → Prop} {md : Region.Mode} {S : World → Prop} {fuel : Nat} {listed : Array Bool} {a : Act} {w : World} {b : Act} {o1 : Op} {o2 : TypeId} {o3 : String} {o4 : Array Edge} {o5 : Option (Nat × Bool)}
    (i d : Nat) (v : Value) (h : wpAnyH P md ops Q S fuel (listed.setIfInBounds i true) b w)
    (hi : ops[i]? = some { dst := some d, op := o1, type := o2, pos := o3, after := o4, guard := o5 } := by exact rfl)
    (hs : Region.noSelect ops = true := by kernel_rfl) (hf : Region.free md ops listed i = true := by kernel_rfl) (hr : (Region.ready md ops listed).contains i = true := by kernel_rfl)
    (hQ : ∀ c a w, Q (.panic c) (a.put (some d) v) w → Q (.panic c) a w := by exact (fun _ _ _ h => h))
    (hw : Region.wanted { dst := some d, op := o1, type := o2, pos := o3, after := o4, guard := o5 } (yielded ops a.tmps) = true := by rfl)
    (hS : S w := by assumption)
    (hb : a.put (some d) v = b := by (simp only [Act.put, List.setIfInBounds_toArray, List.set_cons_zero, List.set_cons_succ]; exact rfl))
    (hy : ∀ w', S w' → (execOp a.eval { dst := some d, op := o1, type := o2, pos := o3, after := o4, guard := o5 }).run P w' = .ok (.value v) w' := by (intro w' hSw; (try dsimp only at hSw); go_simp; try rfl)) : wpAnyH P md ops Q S (fuel + 1) listed a w :=
  wpAnyH_take hi hs hf hr hQ (Or.inl ⟨hw, hy⟩) hS (hb ▸ h)
theorem tku {P : Program} {ops : Array Oper} {Q : Exit → Act → World → Prop} {md : Region.Mode} {S : World → Prop} {fuel : Nat} {listed : Array Bool} {a : Act} {w : World} {b : Act} {o1 : Op} {o2 : TypeId} {o3 : String} {o4 : Array Edge} {o5 : Option (Nat × Bool)}
    (i d : Nat) (h : wpAnyH P md ops Q S fuel (listed.setIfInBounds i true) b w)
    (hi : ops[i]? = some { dst := some d, op := o1, type := o2, pos := o3, after := o4, guard := o5 } := by exact rfl)
    (hs : Region.noSelect ops = true := by kernel_rfl) (hf : Region.free md ops listed i = true := by kernel_rfl) (hr : (Region.ready md ops listed).contains i = true := by kernel_rfl)
    (hQ : ∀ c a w, Q (.panic c) (a.put (some d) undef) w → Q (.panic c) a w := by exact (fun _ _ _ h => h))
    (hw : Region.wanted { dst := some d, op := o1, type := o2, pos := o3, after := o4, guard := o5 } (yielded ops a.tmps) = false := by rfl)
    (hS : S w := by assumption)
    (hb : a.put (some d) undef = b := by (simp only [Act.put, List.setIfInBounds_toArray, List.set_cons_zero, List.set_cons_succ]; exact rfl)) : wpAnyH P md ops Q S (fuel + 1) listed a w :=
  wpAnyH_take hi hs hf hr hQ (Or.inr ⟨hw, rfl⟩) hS (hb ▸ h)
theorem tkr {P : Program} {ops : Array Oper} {Q : Exit → Act → World → Prop} {md : Region.Mode} {S : World → Prop} {fuel : Nat} {listed : Array Bool} {a : Act} {w : World} {o1 : Op} {o2 : TypeId} {o3 : String} {o4 : Array Edge} {o5 : Option (Nat × Bool)}
    (i d : Nat) (h : ∀ K' : Act → World → Prop, Shut (∀ a w, S w → (S w → wpAnyH P md ops Q S fuel (listed.setIfInBounds i true) a w) → K' a w) → if Region.wanted { dst := some d, op := o1, type := o2, pos := o3, after := o4, guard := o5 } (yielded ops a.tmps) = true then Oper.wp P { dst := some d, op := o1, type := o2, pos := o3, after := o4, guard := o5 } a w K' Q else K' (a.put (some d) undef) w)
    (hi : ops[i]? = some { dst := some d, op := o1, type := o2, pos := o3, after := o4, guard := o5 } := by exact rfl)
    (hr : Region.ready md ops listed = [i] := by kernel_rfl) : wpAnyH P md ops Q S (fuel + 1) listed a w :=
  wpAnyH_ready hr (by simp) (AllReadyH.cons hi h AllReadyH.nil)
theorem tkz {P : Program} {ops : Array Oper} {Q : Exit → Act → World → Prop} {md : Region.Mode} {S : World → Prop} {fuel : Nat} {listed : Array Bool} {a : Act} {w : World} {o1 : Op} {o2 : TypeId} {o3 : String} {o4 : Array Edge} {o5 : Option (Nat × Bool)}
    (i : Nat) (h : ∀ K' : Act → World → Prop, Shut (∀ a w, S w → (S w → wpAnyH P md ops Q S fuel (listed.setIfInBounds i true) a w) → K' a w) → if Region.wanted { dst := none, op := o1, type := o2, pos := o3, after := o4, guard := o5 } (yielded ops a.tmps) = true then Oper.wp P { dst := none, op := o1, type := o2, pos := o3, after := o4, guard := o5 } a w K' Q else K' (a.put none undef) w)
    (hi : ops[i]? = some { dst := none, op := o1, type := o2, pos := o3, after := o4, guard := o5 } := by exact rfl)
    (hr : Region.ready md ops listed = [i] := by kernel_rfl) : wpAnyH P md ops Q S (fuel + 1) listed a w :=
  wpAnyH_ready hr (by simp) (AllReadyH.cons hi h AllReadyH.nil)
theorem tka {α : Type} {l : List α} {i : Nat} {a : α} : l.toArray.setIfInBounds i a = (l.set i a).toArray := by simp
theorem tkb {α : Type} {x a : α} {l : List α} : (x :: l).set 0 a = a :: l := rfl
theorem tkc {α : Type} {x a : α} {l : List α} {i : Nat} : (x :: l).set (i + 1) a = x :: l.set i a := rfl

open Go.RowKit

def Ints (k:IntKind) (w:World) (a:Option Addr) (len cap:Nat) (zs:List Int):Prop:=
 zs.length=len∧len≤cap∧cap≤maxLen ∧
 (len=0∨∃ b off,a=some ⟨b,off,none⟩∧b<w.heap.size∧∀ t,t<len→w.cell? ⟨b,off+t,none⟩=some (.int k (zs.getD t 0)))

theorem lt_of_cell {w:World} {b o:Nat} {v:Value} (h:w.cell? ⟨b,o,none⟩=some v):b<w.heap.size:=by
 rcases Nat.lt_or_ge b w.heap.size with h' | h'
 ·exact h'
 ·simp [World.cell?,Array.getElem?_eq_none h'] at h

theorem Ints.below {k:IntKind} {w w':World} {a:Option Addr} {len cap:Nat} {zs:List Int} (h:Ints k w a len cap zs) (hb:Below w.heap.size w w'):Ints k w' a len cap zs:=by
 obtain ⟨h1,h2,h3,h4⟩:=h
 refine ⟨h1,h2,h3,?_⟩
 rcases h4 with h4 | ⟨b,off,ha,hlt,hc⟩
 ·exact .inl h4
 ·exact .inr ⟨b,off,ha,by have:=hb.size;omega,fun t ht=>by rw [hb.cell (p:=⟨b,off+t,none⟩) hlt];exact hc t ht⟩

theorem Ints.of_owns {k:IntKind} {w:World} {base e n cap g:Nat} {zs:List Int} (h:w.ownsRow base e 1 (.slice (some ⟨g,0,none⟩) n cap) n (zs.map (Value.int k))):Ints k w (some ⟨g,0,none⟩) n cap zs:=by
 have hl:zs.length=n:=by simpa using h.1
 have hc:∀ t,t<n→w.cell? ⟨g,0+t,none⟩=some (.int k (zs.getD t 0)):=by
  intro t ht
  have:=h.cellAt t (by omega)
  rw [Nat.zero_add,this]
  simp [List.getElem?_eq_getElem (show t<zs.length by omega)]
 have hg:=(h.lt g rfl).2
 rcases h.2 with ⟨h0,_⟩ | ⟨g',cap',cur,hv,_,_,hn,hcap,_,_⟩
 ·cases h0
 ·cases hv
  exact ⟨hl,hn,hcap,.inr ⟨g,0,rfl,hg,hc⟩⟩

theorem info_int:(Tryd.prog.info? 3).map (fun i=>(i.zero,i.size,i.bytes))=some (some (.int .i64 0),1,8):=by kernel_rfl

theorem made_ints (n:Nat):(madeCells #[Value.int .i64 0] n).toList=(List.replicate n (0:Int)).map (Value.int .i64):=by
 rw [toList_madeCells_one,List.map_replicate]

open Go.RowKit Go.ChangeShapes Go.WideShapes

theorem bel_trans {a b c:World} (h:Below a.heap.size a b) (k:Below b.heap.size b c):Below a.heap.size a c:=h.trans (k.mono h.size)

abbrev I3:=Int × Int × Int

def I3.fits (x:I3):Prop:=(Lit.int .i64 x.1).wf=true∧(Lit.int .i64 x.2.1).wf=true∧(Lit.int .i64 x.2.2).wf=true

def I3.val (x:I3):Value:=.agg #[.int .i64 x.1,.int .i64 x.2.1,.int .i64 x.2.2]

def Instrs (w:World) (a:Option Addr) (len cap:Nat) (xs:List I3):Prop:=
 xs.length=len∧len≤cap∧cap≤maxLen∧(∀ x ∈ xs,I3.fits x) ∧
 (len=0∨∃ b off,a=some ⟨b,off,none⟩∧b<w.heap.size∧∀ t,t<len →
  w.cell? ⟨b,off+t*3,none⟩=some (.int .i64 (xs.getD t (0,0,0)).1) ∧
  w.cell? ⟨b,off+t*3+1,none⟩=some (.int .i64 (xs.getD t (0,0,0)).2.1) ∧
  w.cell? ⟨b,off+t*3+2,none⟩=some (.int .i64 (xs.getD t (0,0,0)).2.2))

def Codes (w:World) (a:Option Addr) (len cap:Nat) (P:List (List I3)):Prop:=
 P.length=len∧len≤cap∧cap≤maxLen ∧
 (len=0∨∃ b off,a=some ⟨b,off,none⟩∧b<w.heap.size∧∀ t,t<len →
  ∃ a' len' cap',w.cell? ⟨b,off+t,none⟩=some (.slice a' len' cap')∧Instrs w a' len' cap' (P.getD t []))

theorem Instrs.below {w w':World} {a:Option Addr} {len cap:Nat} {xs:List I3} (h:Instrs w a len cap xs) (hb:Below w.heap.size w w'):Instrs w' a len cap xs:=by
 obtain ⟨h1,h2,h3,hf,h4⟩:=h
 refine ⟨h1,h2,h3,hf,?_⟩
 rcases h4 with h4 | ⟨b,off,ha,hlt,hc⟩
 ·exact .inl h4
 ·refine .inr ⟨b,off,ha,by have:=hb.size;omega,fun t ht=>?_⟩
  obtain ⟨c0,c1,c2⟩:=hc t ht
  exact ⟨by rw [hb.cell (p:=⟨b,_,none⟩) hlt];exact c0,by rw [hb.cell (p:=⟨b,_,none⟩) hlt];exact c1,by rw [hb.cell (p:=⟨b,_,none⟩) hlt];exact c2⟩

theorem Codes.below {w w':World} {a:Option Addr} {len cap:Nat} {P:List (List I3)} (h:Codes w a len cap P) (hb:Below w.heap.size w w'):Codes w' a len cap P:=by
 obtain ⟨h1,h2,h3,h4⟩:=h
 refine ⟨h1,h2,h3,?_⟩
 rcases h4 with h4 | ⟨b,off,ha,hlt,hc⟩
 ·exact .inl h4
 ·refine .inr ⟨b,off,ha,by have:=hb.size;omega,fun t ht=>?_⟩
  obtain ⟨a',l',c',hcell,hi⟩:=hc t ht
  exact ⟨a',l',c',by rw [hb.cell (p:=⟨b,_,none⟩) hlt];exact hcell,hi.below hb⟩

section
variable {H : Type} {enc : TypeId × Value → H} {P : Program} {w : World} {base : Nat} {spare : Nat → Bool} {held : Bool}

theorem open_instr_cells {t:TypeId} {fuel:Nat} {F0 F1 F2:Field} {cs:List Value} {x:DataW H × List MemPlace}
  (ht:P.underlying t=some (.struct #[F0,F1,F2])) (hone:Go.Deep.oneCellFields P #[F0,F1,F2]=true) (hC:P.cellsOf t=3)
  (i0:P.underlying F0.type=some (.int .i64)) (i1:P.underlying F1.type=some (.int .i64)) (i2:P.underlying F2.type=some (.int .i64))
  (h:DataW.trod enc P w base spare held fuel t cs=some x):∃ y:I3,cs=[.int .i64 y.1,.int .i64 y.2.1,.int .i64 y.2.2]∧I3.fits y:=by
 obtain ⟨y0,y1,y2,n,hx,hl,h0,h1,h2⟩:=Go.Deep.trod_struct3 ht h
 rw [hC] at hl
 obtain ⟨o0,k0⟩:=Go.Deep.hone_of hone 0 F0 rfl
 obtain ⟨o1,k1⟩:=Go.Deep.hone_of hone 1 F1 rfl
 obtain ⟨o2,k2⟩:=Go.Deep.hone_of hone 2 F2 rfl
 match cs,hl with
 | [c0,c1,c2],_ =>
  simp only [o0,k0] at h0
  simp only [o1,k1] at h1
  simp only [o2,k2] at h2
  obtain ⟨m0,e0,_,f0⟩:=DataW.trod_int i0 h0
  obtain ⟨m1,e1,_,f1⟩:=DataW.trod_int i1 h1
  obtain ⟨m2,e2,_,f2⟩:=DataW.trod_int i2 h2
  simp at e0 e1 e2
  exact ⟨(m0,m1,m2),by simp [e0,e1,e2],f0,f1,f2⟩

theorem open_instrs {t e:TypeId} {fuel:Nat} {F0 F1 F2:Field} {v:Value} {x:DataW H × List MemPlace}
  (hs:P.underlying t=some (.slice e)) (ht:P.underlying e=some (.struct #[F0,F1,F2])) (hone:Go.Deep.oneCellFields P #[F0,F1,F2]=true) (hC:P.cellsOf e=3)
  (i0:P.underlying F0.type=some (.int .i64)) (i1:P.underlying F1.type=some (.int .i64)) (i2:P.underlying F2.type=some (.int .i64))
  (h:DataW.trod enc P w base spare held fuel t [v]=some x):∃ a len cap xs,v=.slice a len cap∧Instrs w a len cap xs:=by
 rcases Go.Deep.open_slice hs h with ⟨hcs,_⟩ | ⟨a,len,cap,m,n,D,Pl,hcs,_,hl,hm,hmm,_,hx⟩
 ·simp at hcs
  exact ⟨none,0,0,[],hcs,rfl,Nat.le_refl _,by unfold maxLen;omega,by simp,.inl rfl⟩
 ·simp at hcs
  have hlm:len≤m:=by rw [hmm];split<;>omega
  obtain ⟨Y,hY⟩:=Go.Deep.choose_lt (α:=I3) (n:=len) (p:=fun i y=>w.cells? base (a.add (i*3)) 3=some [.int .i64 y.1,.int .i64 y.2.1,.int .i64 y.2.2]∧I3.fits y) (fun i hi=>by
   obtain ⟨cs',h1,h2⟩:=hx i (by omega)
   rw [hC] at h1
   obtain ⟨y,hy,hf⟩:=open_instr_cells ht hone hC i0 i1 i2 h2
   exact ⟨y,by rw [h1,hy],hf⟩)
  refine ⟨some a,len,cap,(List.range len).map Y,hcs,by simp,hl,hm,?_,?_⟩
  ·intro z hz
   obtain ⟨i,hi,rfl⟩:=List.mem_map.1 hz
   exact (hY i (List.mem_range.1 hi)).2
  ·rcases Nat.eq_zero_or_pos len with h0 | h0
   ·exact .inl h0
   right
   obtain ⟨b,off,spot⟩:=a
   have hc:=(World.cells?_some (hY 0 h0).1).2.2 0 (by omega)
   have hspot:spot=none:=by simpa [Addr.add] using World.cell?_spot hc
   subst hspot
   have e:∀ i,(⟨b,off,none⟩:Addr).add i=⟨b,off+i,none⟩:=fun i=>by unfold Addr.add;split<;>simp_all
   have e':∀ i j,(⟨b,off+i,none⟩:Addr).add j=⟨b,off+i+j,none⟩:=fun i j=>by unfold Addr.add;split<;>simp_all
   have hall:∀ i,i<len→w.cell? ⟨b,off+i*3,none⟩=some (.int .i64 (((List.range len).map Y).getD i (0,0,0)).1) ∧
     w.cell? ⟨b,off+i*3+1,none⟩=some (.int .i64 (((List.range len).map Y).getD i (0,0,0)).2.1) ∧
     w.cell? ⟨b,off+i*3+2,none⟩=some (.int .i64 (((List.range len).map Y).getD i (0,0,0)).2.2):=by
    intro i hi
    have hcs:=(World.cells?_some (hY i hi).1).2.2
    have g:((List.range len).map Y).getD i (0,0,0)=Y i:=by simp [List.getD,hi]
    rw [g]
    have c0:=hcs 0 (by omega)
    have c1:=hcs 1 (by omega)
    have c2:=hcs 2 (by omega)
    rw [e,e'] at c0 c1 c2
    exact ⟨by simpa using c0,by simpa using c1,by simpa using c2⟩
   exact ⟨b,off,rfl,lt_of_cell (hall 0 h0).1,hall⟩

theorem open_codes {s t e:TypeId} {fuel:Nat} {F0 F1 F2:Field} {v:Value} {x:DataW H × List MemPlace}
  (hss:P.underlying s=some (.slice t)) (h1:P.cellsOf t=1)
  (hs:P.underlying t=some (.slice e)) (ht:P.underlying e=some (.struct #[F0,F1,F2])) (hone:Go.Deep.oneCellFields P #[F0,F1,F2]=true) (hC:P.cellsOf e=3)
  (i0:P.underlying F0.type=some (.int .i64)) (i1:P.underlying F1.type=some (.int .i64)) (i2:P.underlying F2.type=some (.int .i64))
  (h:DataW.trod enc P w base spare held fuel s [v]=some x):∃ a len cap xss,v=.slice a len cap∧Codes w a len cap xss:=by
 rcases Go.Deep.open_slice1 hss h1 h with ⟨hcs,_⟩ | ⟨a,len,cap,m,n,V,D,Pl,hcs,_,hl,hm,hmm,_,hx⟩
 ·simp at hcs
  exact ⟨none,0,0,[],hcs,rfl,Nat.le_refl _,by unfold maxLen;omega,.inl rfl⟩
 ·simp at hcs
  have hlm:len≤m:=by rw [hmm];split<;>omega
  obtain ⟨Y,hY⟩:=Go.Deep.choose_lt (α:=List I3) (n:=len) (p:=fun i y=>∃ a' len' cap',w.cell? (a.add i)=some (.slice a' len' cap')∧Instrs w a' len' cap' y) (fun i hi=>by
   obtain ⟨hc,ho⟩:=hx i (by omega)
   obtain ⟨a',l',c',xs,hv,hi'⟩:=open_instrs hs ht hone hC i0 i1 i2 ho
   exact ⟨xs,a',l',c',by rw [hc,hv],hi'⟩)
  refine ⟨some a,len,cap,(List.range len).map Y,hcs,by simp,hl,hm,?_⟩
  rcases Nat.eq_zero_or_pos len with h0 | h0
  ·exact .inl h0
  right
  obtain ⟨b,off,spot⟩:=a
  obtain ⟨_,_,_,hc,_⟩:=hY 0 h0
  have hspot:spot=none:=by simpa [Addr.add] using World.cell?_spot hc
  subst hspot
  have e:∀ i,(⟨b,off,none⟩:Addr).add i=⟨b,off+i,none⟩:=fun i=>by unfold Addr.add;split<;>simp_all
  have hall:∀ i,i<len→∃ a' len' cap',w.cell? ⟨b,off+i,none⟩=some (.slice a' len' cap')∧Instrs w a' len' cap' (((List.range len).map Y).getD i []):=by
   intro i hi
   have g:((List.range len).map Y).getD i []=Y i:=by simp [List.getD,hi]
   rw [g,← e]
   exact hY i hi
  obtain ⟨_,_,_,hc0,_⟩:=hall 0 h0
  exact ⟨b,off,rfl,lt_of_cell hc0,hall⟩
end

theorem open_laws_Program {H:Type} {enc:TypeId × Value→H} {w:World} {base:Nat} {spare:Nat→Bool} {held:Bool} {r:Reach} {b0:Nat} {v:Value} {d:DataW H} {p:List MemPlace}
  (hv:Value.okWide Tryd.prog w r b0 46 v) (h:DataW.Trod enc Tryd.prog w base spare held 46 v d p):∃ a len cap xss,v=.agg #[.slice a len cap]∧Codes w a len cap xss:=by
 obtain ⟨cs,rfl,hsz⟩:=okWide_struct Tryd.underlying46 hv
 have hsz':cs.size=1:=hsz.trans (by kernel_rfl)
 obtain ⟨fuel,hf⟩:=h
 obtain ⟨y0,n,_,_,h0⟩:=trod_struct1 Tryd.underlying46 hf
 obtain ⟨c,rfl⟩:∃ c,cs=#[c]:=by
  obtain ⟨l⟩:=cs
  match l,hsz' with
  | [c],_=>exact ⟨c,rfl⟩
 have hk:Tryd.prog.cellsOf 44=1:=by kernel_rfl
 simp only [Value.cells,hk] at h0
 obtain ⟨a,len,cap,xss,hc,hC⟩:=open_codes Tryd.underlying44 (by kernel_rfl) Tryd.underlying132 Tryd.underlying171 (by kernel_rfl) (by kernel_rfl) Tryd.underlying3 Tryd.underlying3 Tryd.underlying3 h0
 exact ⟨a,len,cap,xss,by rw [hc],hC⟩

open Go.RowKit Go.ChangeShapes Go.WideShapes Go.Joins

abbrev V4:=List Int × List Int × List Int × List Int
abbrev Sl:=Option Addr × Nat × Nat
def Sl.val (s:Sl):Value:=.slice s.1 s.2.1 s.2.2
abbrev S4:=Sl × Sl × Sl × Sl
def S4.val (s:S4):Value:=.agg #[.slice s.1.1 s.1.2.1 s.1.2.2,.slice s.2.1.1 s.2.1.2.1 s.2.1.2.2,.slice s.2.2.1.1 s.2.2.1.2.1 s.2.2.1.2.2,.slice s.2.2.2.1 s.2.2.2.2.1 s.2.2.2.2.2]
def SlInts (w:World) (s:Sl) (zs:List Int):Prop:=Ints .i64 w s.1 s.2.1 s.2.2 zs∧∀ z ∈ zs,(Lit.int .i64 z).wf=true
def Vmem (w:World) (s:S4) (m:V4):Prop:=SlInts w s.1 m.1∧SlInts w s.2.1 m.2.1∧SlInts w s.2.2.1 m.2.2.1∧SlInts w s.2.2.2 m.2.2.2

theorem SlInts.below {w w':World} {s:Sl} {zs:List Int} (h:SlInts w s zs) (hb:Below w.heap.size w w'):SlInts w' s zs:=⟨h.1.below hb,h.2⟩
theorem Vmem.below {w w':World} {s:S4} {m:V4} (h:Vmem w s m) (hb:Below w.heap.size w w'):Vmem w' s m:=⟨h.1.below hb,h.2.1.below hb,h.2.2.1.below hb,h.2.2.2.below hb⟩

section
variable {H : Type} {enc : TypeId × Value → H} {P : Program} {w : World} {base : Nat} {spare : Nat → Bool} {held : Bool}
end


theorem toInstr_same (x:I3) (w:World):Calls Tryd.prog 108 #[x.val] w fun e w'=>e=.returned x.val∧Below w.heap.size w w':=by
 obtain ⟨p,q,r⟩:=x
 unfold I3.val
 go_enter Tryd.func108,Tryd.ntmps108
 go_wp2
 go_returns
 exact ⟨rfl,by go_grown⟩

theorem eqInstr_same (x:I3) (w:World):Calls Tryd.prog 109 #[x.val,x.val] w fun e w'=>e=.returned (.bool true)∧Below w.heap.size w w':=by
 obtain ⟨p,q,r⟩:=x
 unfold I3.val
 go_enter Tryd.func109,Tryd.ntmps109
 go_wp2
 go_returns
 exact ⟨rfl,by go_grown⟩

def less (left n:Int):Int:=if left - n<0 then -1 else left - n

theorem szInstrS_less (a:Option Addr) (len cap:Nat) (left:Int) (w:World) (hl:len≤maxLen) (h0:0≤left) (h1:left≤2 ^ 20) :
  Calls Tryd.prog 77 #[.slice a len cap,.int .i64 left] w fun e w'=>e=.returned (.int .i64 (less left len))∧w=w':=by
 unfold maxLen at hl
 unfold less
 go_enter Tryd.func77,Tryd.ntmps77
 by_cases h:left - len<0
 ·rw [if_pos h]
  go_wp2
  go_ret
  exact ⟨rfl,rfl⟩
 ·rw [if_neg h]
  go_wp2
  go_ret
  exact ⟨rfl,rfl⟩

def lessAll (left:Int):List (List I3)→Int
 | []=>left
 | r::rs=>if left<r.length then -1 else lessAll (left - r.length) rs

theorem lessAll_neg_or:∀ (rows:List (List I3)) (left:Int),0≤left→lessAll left rows=-1∨(0≤lessAll left rows∧lessAll left rows≤left)
 | [],left,h=>.inr ⟨h,Int.le_refl _⟩
 | r::rs,left,h=>by
  unfold lessAll
  split
  ·exact .inl rfl
  ·rcases lessAll_neg_or rs (left - r.length) (by omega) with h' | ⟨h1,h2⟩
   ·exact .inl h'
   ·exact .inr ⟨h1,by omega⟩

theorem lessAll_step {rows:List (List I3)} {k:Nat} {l:Int} (hk:k<rows.length):lessAll l (rows.drop k)=if l<(rows.getD k []).length then -1 else lessAll (l - (rows.getD k []).length) (rows.drop (k+1)):=by
 rw [List.drop_eq_getElem_cons hk]
 show (if l<(rows[k]).length then -1 else lessAll (l - (rows[k]).length) (rows.drop (k+1)))=_
 simp [List.getD,hk]

def sizeLeft (left:Int) (rows:List (List I3)):Int:=if left<rows.length then -1 else lessAll (left - rows.length) rows

theorem sizeLeft_or (rows:List (List I3)) (left:Int) (_h:0≤left):sizeLeft left rows=-1∨(0≤sizeLeft left rows∧sizeLeft left rows≤left):=by
 unfold sizeLeft
 split
 ·exact .inl rfl
 ·rcases lessAll_neg_or rows (left - rows.length) (by omega) with h' | h'
  ·exact .inl h'
  ·exact .inr ⟨h'.1,by omega⟩

theorem szInstrSS_less (a:Option Addr) (len cap:Nat) (rows:List (List I3)) (left:Int) (w:World) (h:Codes w a len cap rows) (h0:0≤left) (h1:left≤2 ^ 20) :
  Calls Tryd.prog 42 #[.slice a len cap,.int .i64 left] w fun e w'=>e=.returned (.int .i64 (sizeLeft left rows))∧Below w.heap.size w w':=by
 obtain ⟨hlen,hlc,hcm,hcase⟩:=h
 unfold maxLen at hcm
 unfold sizeLeft
 rw [hlen]
 go_enter Tryd.func42,Tryd.ntmps42
 by_cases hlt:left - len<0
 ·rw [if_pos (by omega)]
  go_wp2
  go_ret
  exact ⟨rfl,Below.refl _ _⟩
 ·rw [if_neg (by omega)]
  by_cases hz:len=0
  ·subst hz
   obtain rfl:rows=[]:=List.length_eq_zero_iff.1 hlen
   go_wp2
   refine wp_loop_rounds 1 ?_
   rw [rounds_succ]
   go_wp2
   go_ret
   exact ⟨by simp [lessAll],Below.refl _ _⟩
  ·rcases hcase with h0' | ⟨b,off,rfl,hblt,hcell⟩
   ·exact absurd h0' hz
   obtain ⟨fin,hfin⟩:∃ fin,fin=lessAll (left - len) rows:=⟨_,rfl⟩
   rw [← hfin]
   have hfin':Hid (fin=lessAll (left - len) (rows.drop 0)):=hfin
   clear hfin
   go_wp2
   go_loopw [1,5] (fun sl si wr=>∃ (k:Nat) (l:Int),k≤len∧si=.int .i64 k∧sl=.int .i64 l∧0≤l∧l≤2 ^ 20∧Hid (fin=lessAll l (rows.drop k))∧Below w.heap.size w wr) (fun _ si _=>len - (intOf si).toNat)
   case atStart=>exact ⟨0,left - len,by omega,rfl,by go_num,by omega,by omega,hfin',Below.refl _ _⟩
   case round =>
    obtain ⟨k,l,hk,rfl,rfl,hl0,hl1,hH,hb⟩:=hrel
    by_cases hlt':k<len
    ·obtain ⟨a',len',cap',hc,hi⟩:=hcell k hlt'
     have hr:(rows.getD k []).length=len':=hi.1
     have hm:len'≤maxLen:=Nat.le_trans hi.2.1 hi.2.2.1
     have hc':wr.cell? ⟨b,off+k,none⟩=some (.slice a' len' cap'):=by rw [hb.cell (p:=⟨b,_,none⟩) hblt];exact hc
     have hst:=lessAll_step (rows:=rows) (k:=k) (l:=l) (by omega)
     rw [hr] at hst
     have hst':Hid (lessAll l (rows.drop k)=if l<len' then -1 else lessAll (l - len') (rows.drop (k+1))):=hst
     clear hst hcell hc hi hr
     have hlt2:(k:Int)<(len:Int):=by omega
     by_cases hll:l - len'<0
     ·have hless:less l len'=-1:=if_pos hll
      have hff:fin=-1:=by rw [hH.out,hst'.out,if_pos (by omega)]
      subst hff
      clear hH hst'
      go_wp2_with (go_at_call 77;refine (szInstrS_less _ _ _ _ _ hm hl0 hl1).mono ?_;rintro e w1 ⟨rfl,rfl⟩;rw [hless])
      go_ret
      exact ⟨rfl,hb⟩
     ·have hless:less l len'=l - len':=if_neg hll
      have hH':Hid (fin=lessAll (l - len') (rows.drop (k+1))):=by rw [Hid,hH.out,hst'.out,if_neg (by omega)]
      clear hH hst'
      go_wp2_with (go_at_call 77;refine (szInstrS_less _ _ _ _ _ hm hl0 hl1).mono ?_;rintro e w1 ⟨rfl,rfl⟩;rw [hless])
      go_roundw
      case rel=>exact ⟨k+1,l - len',by omega,by go_num,rfl,by omega,by omega,hH',hb⟩
      case measure=>simp [intOf];omega
    ·obtain rfl:k=len:=by omega
     have hd:lessAll l (rows.drop k)=l:=by rw [List.drop_eq_nil_of_le (by omega)];rfl
     have hff:l=fin:=(hH.out.trans hd).symm
     subst hff
     clear hH hd hcell
     go_wp2
     go_ret
     exact ⟨rfl,hb⟩

theorem szProgram_less (a:Option Addr) (len cap:Nat) (rows:List (List I3)) (left:Int) (w:World) (h:Codes w a len cap rows) (h0:0≤left) (h1:left≤2 ^ 20) :
  Calls Tryd.prog 15 #[.agg #[.slice a len cap],.int .i64 left] w fun e w'=>e=.returned (.int .i64 (sizeLeft left rows))∧Below w.heap.size w w':=by
 obtain ⟨fin,hfin⟩:∃ fin,fin=sizeLeft left rows:=⟨_,rfl⟩
 rcases (hfin▸sizeLeft_or rows left h0:fin=-1∨0≤fin∧fin≤left) with hf | ⟨hf,hf'⟩
 ·rw [← hfin]
  subst hf
  go_enter Tryd.func15,Tryd.ntmps15
  go_wp2_with (go_at_call 42;refine (szInstrSS_less _ _ _ rows _ _ (h.below (by go_grown)) h0 h1).mono ?_;rw [← hfin];clear hfin;rintro e w1 ⟨rfl,hb1⟩)
  go_ret
  exact ⟨rfl,bel_trans (by go_grown) hb1⟩
 ·rw [← hfin]
  go_enter Tryd.func15,Tryd.ntmps15
  go_wp2_with (go_at_call 42;refine (szInstrSS_less _ _ _ rows _ _ (h.below (by go_grown)) h0 h1).mono ?_;rw [← hfin];clear hfin;rintro e w1 ⟨rfl,hb1⟩)
  go_ret
  exact ⟨rfl,bel_trans (by go_grown) hb1⟩


def I3.cells (x:I3):List Value:=[.int .i64 x.1,.int .i64 x.2.1,.int .i64 x.2.2]

def flat (xs:List I3):List Value:=xs.flatMap I3.cells

theorem flat_length (xs:List I3):(flat xs).length=xs.length*3:=by
 induction xs with
 | nil=>rfl
 | cons x xs ih=>simp [flat,I3.cells] at *;omega

theorem flat_take_succ {xs:List I3} {k:Nat} (hk:k<xs.length):flat (xs.take (k+1))=flat (xs.take k)++(xs.getD k (0,0,0)).cells:=by
 unfold flat
 rw [List.take_succ_eq_append_getElem hk,List.flatMap_append]
 simp [List.getD,hk,I3.cells]

theorem set3_take {cs l:List Value} {k:Nat} (a b c:Value) (hl:k*3+3≤cs.length) (ht:cs.take (k*3)=l) :
  (((cs.set (k*3) a).set (k*3+1) b).set (k*3+2) c).take ((k+1)*3)=l++[a,b,c]:=by
 have hll:l.length=k*3:=by rw [← ht,List.length_take];omega
 obtain ⟨x,y,z,rest,hd⟩:∃ x y z rest,cs.drop (k*3)=x::y::z::rest:=by
  match h:cs.drop (k*3),(by rw [List.length_drop];omega:3≤(cs.drop (k*3)).length) with
  | x::y::z::rest,_=>exact ⟨x,y,z,rest,rfl⟩
 have hcs:cs=l++x::y::z::rest:=by rw [← ht,← hd,List.take_append_drop]
 rw [hcs,← hll,List.set_append_right _ _ (Nat.le_refl _),List.set_append_right _ _ (by omega),List.set_append_right _ _ (by omega)]
 rw [show (k+1)*3=l.length+3 by omega,List.take_length_add_append]
 simp [show l.length+1 - l.length=1 by omega,show l.length+2 - l.length=2 by omega]

theorem Instrs.of_owns {w:World} {base e n cap g:Nat} {cs:List Value} {xs:List I3} (h:w.ownsRow base e 3 (.slice (some ⟨g,0,none⟩) n cap) n cs) (hl:xs.length=n) (hf:∀ x ∈ xs,I3.fits x) (hcs:cs=flat xs) :
  Instrs w (some ⟨g,0,none⟩) n cap xs:=by
 have hcell:∀ t,t<n→∀ j,j<3→w.cell? ⟨g,t*3+j,none⟩=((xs.getD t (0,0,0)).cells)[j]?:=by
  intro t ht j hj
  rw [h.cellAt (t*3+j) (by omega),hcs]
  have hsplit:flat xs=flat (xs.take t)++((xs.getD t (0,0,0)).cells++flat (xs.drop (t+1))):=by
   rw [← List.append_assoc,← flat_take_succ (by omega)]
   unfold flat
   rw [← List.flatMap_append,List.take_append_drop]
  have hlt:(flat (xs.take t)).length=t*3:=by rw [flat_length,List.length_take];rw [Nat.min_eq_left (by omega)]
  rw [hsplit,List.getElem?_append_right (by omega),hlt,Nat.add_sub_cancel_left,List.getElem?_append_left (by simp [I3.cells];omega)]
 have hg:=(h.lt g rfl).2
 rcases h.2 with ⟨h0,_⟩ | ⟨g',cap',cur,hv,_,_,hn,hcap,_,_⟩
 ·cases h0
 ·cases hv
  exact ⟨hl,hn,hcap,hf,.inr ⟨g,0,rfl,hg,fun t ht=>⟨by simpa [I3.cells] using hcell t ht 0 (by omega),by simpa [I3.cells] using hcell t ht 1 (by omega),by simpa [I3.cells] using hcell t ht 2 (by omega)⟩⟩⟩

theorem info_instr:(Tryd.prog.info? 103).map (fun i=>(i.zero,i.size,i.bytes))=some (some (.agg #[.int .i64 0,.int .i64 0,.int .i64 0]),3,24):=by kernel_rfl

theorem owns_below {B e k n:Nat} {v:Value} {xs:List Value} {w w':World} (h:w.ownsRow B e k v n xs) (hb:Below w.heap.size w w'):w'.ownsRow B e k v n xs:=by
 refine ⟨h.1,?_⟩
 rcases h.2 with h0 | ⟨g,cap,cur,hv,hB,hg,rest⟩
 ·exact .inl h0
 ·have hlt:g<w.heap.size:=by
   rcases Nat.lt_or_ge g w.heap.size with h' | h'
   ·exact h'
   ·simp [Array.getElem?_eq_none h'] at hg
  exact .inr ⟨g,cap,cur,hv,hB,by rw [hb.block g hlt];exact hg,rest⟩

theorem toInstrS_copy (a:Option Addr) (len cap:Nat) (xs:List I3) (w:World) (h:Instrs w a len cap xs) (hn:len≤1048576) :
  Calls Tryd.prog 78 #[.slice a len cap] w fun e w'=>e=.returned (.slice (some ⟨w.heap.size,0,none⟩) len len) ∧
   (∃ cs,cs=flat xs∧w'.ownsRow w.heap.size 103 3 (.slice (some ⟨w.heap.size,0,none⟩) len len) len cs)∧Below w.heap.size w w':=by
 obtain ⟨i0,hi,hz0,hz1,hz2⟩:=info_parts info_instr
 have hI:=h
 obtain ⟨hl,hlc,hcm,hfit,hcase⟩:=h
 unfold maxLen at hcm
 go_enter Tryd.func78,Tryd.ntmps78
 go_wp2_with (at_make;refine wpList_make_full _ rfl _ _ 62 rfl w.heap.size 103 i0 (.agg #[.int .i64 0,.int .i64 0,.int .i64 0]) 3 Tryd.underlying62 hi hz0 hz1 _ _ _ _ len rfl rfl (by omega) (by omega) ?b2 ?b3 (Nat.le_refl _) ?_)
 case b2=>rw [hz2];omega
 case b3=>unfold maxLen;omega
 intro w0 hown0 hgrow0
 have hb0:Below w.heap.size w w0:=(Below.refl _ _).grown hgrow0 (Nat.le_refl _) (fun k h=>by cases h)
 obtain ⟨cs0,hcs0⟩:∃ cs0,cs0=(madeCells #[Value.int .i64 0,.int .i64 0,.int .i64 0] (len*3)).toList:=⟨_,rfl⟩
 rw [← hcs0] at hown0
 clear hgrow0 hcs0
 go_wp2
 go_loopw [4] (fun si wr=>∃ (k:Nat) (cs:List Value),k≤len∧si=.int .i64 k∧Hid (cs.take (k*3)=flat (xs.take k))∧wr.ownsRow w.heap.size 103 3 (.slice (some ⟨w.heap.size,0,none⟩) len len) len cs∧Below w.heap.size w wr) (fun si _=>len - (intOf si).toNat)
 case atStart=>exact ⟨0,cs0,by omega,rfl,by simp [Hid,flat],hown0,hb0⟩
 case round =>
  obtain ⟨k,cs,hk,rfl,hH,ho,hbel⟩:=hrel
  by_cases hlt:k<len
  ·rcases hcase with h0 | ⟨b,off,rfl,hblt,hcell⟩
   ·omega
   have hlt2:(k:Int)<(len:Int):=by omega
   obtain ⟨c0,c1,c2⟩:=hcell k hlt
   have hstep:=flat_take_succ (xs:=xs) (k:=k) (by omega)
   have hstep':Hid (flat (xs.take (k+1))=flat (xs.take k)++(xs.getD k (0,0,0)).cells):=hstep
   clear hstep hcell
   generalize xs.getD k (0,0,0)=x at c0 c1 c2 hstep'
   have d0:wr.cell? ⟨b,off+k*3,none⟩=some (.int .i64 x.1):=by rw [hbel.cell (p:=⟨b,_,none⟩) hblt];exact c0
   have d1:wr.cell? ⟨b,off+k*3+1,none⟩=some (.int .i64 x.2.1):=by rw [hbel.cell (p:=⟨b,_,none⟩) hblt];exact c1
   have d2:wr.cell? ⟨b,off+k*3+2,none⟩=some (.int .i64 x.2.2):=by rw [hbel.cell (p:=⟨b,_,none⟩) hblt];exact c2
   clear c0 c1 c2
   go_wp2_with fail
   refine (toInstr_same x wr).mono ?_
   rintro e w1 ⟨rfl,hb1⟩
   clear d0 d1 d2
   have ho1:=owns_below ho hb1
   have hbel1:Below w.heap.size w w1:=bel_trans hbel hb1
   clear ho hbel hb1
   obtain ⟨x0,x1,x2⟩:=x
   have hlen:=ho1.1
   have f0:=ho1.frozenAt (k*3)
   have f1:=ho1.frozenAt (k*3+1)
   have f2:=ho1.frozenAt (k*3+2)
   obtain ⟨u0,hu0⟩:∃ u,w1.cell? ⟨w.heap.size,k*3,none⟩=some u:=⟨_,by rw [ho1.cellAt _ (by omega)];exact List.getElem?_eq_getElem (by omega)⟩
   obtain ⟨u1,hu1⟩:∃ u,w1.cell? ⟨w.heap.size,k*3+1,none⟩=some u:=⟨_,by rw [ho1.cellAt _ (by omega)];exact List.getElem?_eq_getElem (by omega)⟩
   obtain ⟨u2,hu2⟩:∃ u,w1.cell? ⟨w.heap.size,k*3+2,none⟩=some u:=⟨_,by rw [ho1.cellAt _ (by omega)];exact List.getElem?_eq_getElem (by omega)⟩
   have R:=(((ho1.stored (k*3) (.int .i64 x0)).1.stored (k*3+1) (.int .i64 x1)).1.stored (k*3+2) (.int .i64 x2)).1
   have hT:Hid ((((cs.set (k*3) (.int .i64 x0)).set (k*3+1) (.int .i64 x1)).set (k*3+2) (.int .i64 x2)).take ((k+1)*3)=flat (xs.take (k+1))):=by
    rw [Hid,hstep'.out]
    exact set3_take _ _ _ (by omega) hH.out
   have hb3:Below w.heap.size w (((w1.setCell ⟨w.heap.size,k*3,none⟩ (.int .i64 x0)).setCell ⟨w.heap.size,k*3+1,none⟩ (.int .i64 x1)).setCell ⟨w.heap.size,k*3+2,none⟩ (.int .i64 x2)):=
    ((hbel1.setCell (Nat.le_refl _) _).setCell (Nat.le_refl _) _).setCell (Nat.le_refl _) _
   clear hH hstep' ho1 hbel1
   generalize ((cs.set (k*3) (.int .i64 x0)).set (k*3+1) (.int .i64 x1)).set (k*3+2) (.int .i64 x2)=cs' at R hT
   unfold I3.val
   go_wp2
   go_roundw
   case rel=>exact ⟨k+1,cs',by omega,by go_num,hT,R,hb3⟩
   case measure=>simp [intOf];omega
  ·obtain rfl:k=len:=by omega
   clear hcase hI
   go_wp2
   go_ret
   refine ⟨rfl,⟨cs,?_,ho⟩,hbel⟩
   have h1:=hH.out
   have h2:=ho.1
   rwa [List.take_of_length_le (by omega),List.take_of_length_le (by omega)] at h1


theorem cell_setCell_off (w:World) (p:Addr) (u:Value) {q:Addr} (h:q.block≠p.block):(w.setCell p u).cell? q=w.cell? q:=by
 have:=heap_setCell_other w p q.block u h
 unfold World.cell?
 rw [this]

theorem Instrs.setCell {w:World} {g len cap:Nat} {xs:List I3} (h:Instrs w (some ⟨g,0,none⟩) len cap xs) (p:Addr) (u:Value) (hne:g≠p.block):Instrs (w.setCell p u) (some ⟨g,0,none⟩) len cap xs:=by
 obtain ⟨h1,h2,h3,hf,h4⟩:=h
 refine ⟨h1,h2,h3,hf,?_⟩
 rcases h4 with h4 | ⟨b,off,ha,hlt,hc⟩
 ·exact .inl h4
 ·cases ha
  refine .inr ⟨g,0,rfl,by simpa using hlt,fun t ht=>?_⟩
  obtain ⟨c0,c1,c2⟩:=hc t ht
  exact ⟨by rw [cell_setCell_off _ _ _ hne];exact c0,by rw [cell_setCell_off _ _ _ hne];exact c1,by rw [cell_setCell_off _ _ _ hne];exact c2⟩

def RowsTo (w:World) (B k:Nat) (cs:List Value) (rows:List (List I3)):Prop:=
 ∀ t,t<k→∃ g len',cs[t]?=some (.slice (some ⟨g,0,none⟩) len' len')∧B<g∧Instrs w (some ⟨g,0,none⟩) len' len' (rows.getD t [])

theorem RowsTo.below {w w':World} {B k:Nat} {cs:List Value} {rows:List (List I3)} (h:RowsTo w B k cs rows) (hb:Below w.heap.size w w'):RowsTo w' B k cs rows:=fun t ht=>by
 obtain ⟨g,l,hc,hg,hi⟩:=h t ht
 exact ⟨g,l,hc,hg,hi.below hb⟩

theorem RowsTo.put {w:World} {B k:Nat} {cs:List Value} {rows:List (List I3)} (h:RowsTo w B k cs rows) (hk:k<cs.length) {g len':Nat} (hg:B<g) (hi:Instrs w (some ⟨g,0,none⟩) len' len' (rows.getD k [])) :
  RowsTo (w.setCell ⟨B,k,none⟩ (.slice (some ⟨g,0,none⟩) len' len')) B (k+1) (cs.set k (.slice (some ⟨g,0,none⟩) len' len')) rows:=fun t ht=>by
 by_cases htk:t=k
 ·subst htk
  exact ⟨g,len',by simp [hk],hg,hi.setCell _ _ (show g≠B by omega)⟩
 ·obtain ⟨g',l',hc,hg',hi'⟩:=h t (by omega)
  exact ⟨g',l',by rw [List.getElem?_set_ne (by omega)];exact hc,hg',hi'.setCell _ _ (show g'≠B by omega)⟩

theorem info_instrs:(Tryd.prog.info? 62).map (fun i=>(i.zero,i.size,i.bytes))=some (some (.slice none 0 0),1,24):=by kernel_rfl

theorem Codes.of_rows {w:World} {B e len cap:Nat} {cs:List Value} {rows:List (List I3)} (ho:w.ownsRow B e 1 (.slice (some ⟨B,0,none⟩) len cap) len cs) (hl:rows.length=len) (h:RowsTo w B len cs rows) :
  Codes w (some ⟨B,0,none⟩) len cap rows:=by
 have hg:=(ho.lt B rfl).2
 have hcell:=ho.cellAt
 rcases ho.2 with ⟨h0,_⟩ | ⟨g',cap',cur,hv,_,_,hn,hcap,_,_⟩
 ·cases h0
 ·cases hv
  refine ⟨hl,hn,hcap,.inr ⟨B,0,rfl,hg,fun t ht=>?_⟩⟩
  obtain ⟨g,l,hc,_,hi⟩:=h t ht
  exact ⟨_,_,_,by rw [Nat.zero_add,hcell t (by omega)];exact hc,hi⟩

theorem RowsTo.low {w:World} {B k:Nat} {cs:List Value} {rows:List (List I3)} (h:RowsTo w B k cs rows) {p:Addr} (hp:p.block<B) (u:Value):RowsTo (w.setCell p u) B k cs rows:=fun t ht=>by
 obtain ⟨g,l,hc,hg,hi⟩:=h t ht
 exact ⟨g,l,hc,hg,hi.setCell _ _ (by omega)⟩

def OwnCodes (w:World) (B len:Nat) (rows:List (List I3)):Prop:=
 rows.length=len∧∃ cs,w.ownsRow B 62 1 (.slice (some ⟨B,0,none⟩) len len) len cs∧RowsTo w B len cs rows

theorem OwnCodes.codes {w:World} {B len:Nat} {rows:List (List I3)} (h:OwnCodes w B len rows):Codes w (some ⟨B,0,none⟩) len len rows:=by
 obtain ⟨hl,cs,ho,hR⟩:=h
 exact Codes.of_rows ho hl hR

theorem OwnCodes.low {w:World} {B len:Nat} {rows:List (List I3)} (h:OwnCodes w B len rows) {p:Addr} (hp:p.block<B) (u:Value):OwnCodes (w.setCell p u) B len rows:=by
 obtain ⟨hl,cs,ho,hR⟩:=h
 exact ⟨hl,cs,ownsRow_setCell_below ho hp _,hR.low hp u⟩

theorem toInstrSS_copy (a:Option Addr) (len cap:Nat) (rows:List (List I3)) (w:World) (h:Codes w a len cap rows) (hn:len≤1048576) (hr:∀ t,t<len→(rows.getD t []).length≤1048576) :
  Calls Tryd.prog 44 #[.slice a len cap] w fun e w'=>e=.returned (.slice (some ⟨w.heap.size,0,none⟩) len len) ∧
   OwnCodes w' w.heap.size len rows∧Below w.heap.size w w':=by
 obtain ⟨i0,hi,hz0,hz1,hz2⟩:=info_parts info_instrs
 obtain ⟨hl,hlc,hcm,hcase⟩:=h
 unfold maxLen at hcm
 go_enter Tryd.func44,Tryd.ntmps44
 go_wp2_with (at_make;refine wpList_make_full _ rfl _ _ 23 rfl w.heap.size 62 i0 (.slice none 0 0) 1 Tryd.underlying23 hi hz0 hz1 _ _ _ _ len rfl rfl (by omega) (by omega) ?b2 ?b3 (Nat.le_refl _) ?_)
 case b2=>rw [hz2];omega
 case b3=>unfold maxLen;omega
 intro w0 hown0 hgrow0
 have hb0:Below w.heap.size w w0:=(Below.refl _ _).grown hgrow0 (Nat.le_refl _) (fun k h=>by cases h)
 obtain ⟨cs0,hcs0⟩:∃ cs0,cs0=(madeCells #[Value.slice none 0 0] len).toList:=⟨_,rfl⟩
 rw [← hcs0] at hown0
 clear hgrow0 hcs0
 go_wp2
 go_loopw [4] (fun si wr=>∃ (k:Nat) (cs:List Value),k≤len∧si=.int .i64 k∧RowsTo wr w.heap.size k cs rows∧wr.ownsRow w.heap.size 62 1 (.slice (some ⟨w.heap.size,0,none⟩) len len) len cs∧Below w.heap.size w wr) (fun si _=>len - (intOf si).toNat)
 case atStart=>exact ⟨0,cs0,by omega,rfl,fun t ht=>by omega,hown0,hb0⟩
 case round =>
  obtain ⟨k,cs,hk,rfl,hR,ho,hbel⟩:=hrel
  by_cases hlt:k<len
  ·rcases hcase with h0 | ⟨b,off,rfl,hblt,hcell⟩
   ·omega
   have hlt2:(k:Int)<(len:Int):=by omega
   obtain ⟨a',len',cap',hc,hI⟩:=hcell k hlt
   have hrk:=hr k hlt
   rw [hI.1] at hrk
   have hc':wr.cell? ⟨b,off+k,none⟩=some (.slice a' len' cap'):=by rw [hbel.cell (p:=⟨b,_,none⟩) hblt];exact hc
   clear hcell hc
   have hIr:Instrs wr a' len' cap' (rows.getD k []):=hI.below hbel
   have hwr:=(ho.lt w.heap.size rfl).2
   go_wp2_with fail
   refine (toInstrS_copy a' len' cap' _ wr hIr hrk).mono ?_
   rintro e w1 ⟨rfl,⟨cs2,hcs2,hown2⟩,hb1⟩
   have hI2:=Instrs.of_owns hown2 hIr.1 hIr.2.2.2.1 hcs2
   clear hcs2 hown2 hIr hI hc'
   have ho1:=owns_below ho hb1
   have hR1:=hR.below hb1
   have hbel1:Below w.heap.size w w1:=bel_trans hbel hb1
   clear ho hbel hb1 hR
   have hlen:=ho1.1
   have f0:=ho1.frozenAt k
   obtain ⟨u0,hu0⟩:∃ u,w1.cell? ⟨w.heap.size,k,none⟩=some u:=⟨_,by rw [ho1.cellAt _ (by omega)];exact List.getElem?_eq_getElem (by omega)⟩
   have R:=(ho1.stored k (.slice (some ⟨wr.heap.size,0,none⟩) len' len')).1
   have R2:=hR1.put (by omega) hwr hI2
   have hb3:Below w.heap.size w (w1.setCell ⟨w.heap.size,k,none⟩ (.slice (some ⟨wr.heap.size,0,none⟩) len' len')):=hbel1.setCell (Nat.le_refl _) _
   clear ho1 hbel1 hR1 hI2
   generalize cs.set k (.slice (some ⟨wr.heap.size,0,none⟩) len' len')=cs' at R R2
   go_wp2
   go_roundw
   case rel=>exact ⟨k+1,cs',by omega,by go_num,R2,R,hb3⟩
   case measure=>simp [intOf];omega
  ·obtain rfl:k=len:=by omega
   clear hcase
   go_wp2
   go_ret
   exact ⟨rfl,⟨hl,cs,ho,hR⟩,hbel⟩

theorem toProgram_copy (a:Option Addr) (len cap:Nat) (rows:List (List I3)) (w:World) (h:Codes w a len cap rows) (hn:len≤1048576) (hr:∀ t,t<len→(rows.getD t []).length≤1048576) :
  Calls Tryd.prog 17 #[.agg #[.slice a len cap]] w fun e w'=>e=.returned (.agg #[.slice (some ⟨w.heap.size+3,0,none⟩) len len]) ∧
   OwnCodes w' (w.heap.size+3) len rows∧Below w.heap.size w w':=by
 go_enter Tryd.func17,Tryd.ntmps17
 go_wp2_with fail
 refine (toInstrSS_copy _ _ _ rows _ (h.below (by go_grown)) hn hr).mono ?_
 rintro e w1 ⟨rfl,hC,hb1⟩
 have k1:w1.cell? ⟨w.heap.size+1,0,none⟩=some (.slice none 0 0):=by rw [hb1.cell (by simp)];first | (simp [go_sem];done) | (simp [World.cell?];done)
 have k2:w1.cell? ⟨w.heap.size+1+1,0,none⟩=some (.slice none 0 0):=by rw [hb1.cell (by simp)];first | (simp [go_sem];done) | (simp [World.cell?];done)
 have f1:w1.frozen? ⟨w.heap.size+1,0,none⟩=false:=by rw [hb1.frozen (by simp)];first | (simp [go_sem];done) | (simp [World.frozen?];done)
 have f2:w1.frozen? ⟨w.heap.size+1+1,0,none⟩=false:=by rw [hb1.frozen (by simp)];first | (simp [go_sem];done) | (simp [World.frozen?];done)
 have hbw:Below w.heap.size w w1:=bel_trans (by go_grown) hb1
 simp only [World.size_alloc] at hC
 rw [show w.heap.size+1+1+1=w.heap.size+3 from rfl] at hC
 clear hb1 h
 simp only [World.size_alloc]
 have k3:((w1.setCell ⟨w.heap.size+1+1,0,none⟩ (.slice (some ⟨w.heap.size+1+1+1,0,none⟩) len len)).setCell ⟨w.heap.size+1,0,none⟩ (.slice (some ⟨w.heap.size+1+1+1,0,none⟩) len len)).cell? ⟨w.heap.size+1,0,none⟩=some (.slice (some ⟨w.heap.size+1+1+1,0,none⟩) len len):=
  World.cell?_setCell_same' _ _ _ (by rw [cell_setCell_off _ _ _ (by simp),k1];rfl)
 go_wp2
 have R:=(hC.low (p:=⟨w.heap.size+1+1,0,none⟩) (by simp) (.slice (some ⟨w.heap.size+1+1+1,0,none⟩) len len)).low (p:=⟨w.heap.size+1,0,none⟩) (by simp) (.slice (some ⟨w.heap.size+1+1+1,0,none⟩) len len)
 have hb3:=(hbw.setCell (p:=⟨w.heap.size+1+1,0,none⟩) (by simp;omega) (.slice (some ⟨w.heap.size+1+1+1,0,none⟩) len len)).setCell (p:=⟨w.heap.size+1,0,none⟩) (by simp) (.slice (some ⟨w.heap.size+1+1+1,0,none⟩) len len)
 clear hC hbw k1 k2 f1 f2
 generalize (w1.setCell ⟨w.heap.size+1+1,0,none⟩ (.slice (some ⟨w.heap.size+1+1+1,0,none⟩) len len)).setCell ⟨w.heap.size+1,0,none⟩ (.slice (some ⟨w.heap.size+1+1+1,0,none⟩) len len)=w2 at k3 R hb3
 refine bodyPost_ret (by simp [results,Tryd.results17,go_sem,k3];try rfl) rfl ?_
 exact ⟨rfl,R,hb3⟩
end Go.Proofs.YtjgffnlmjmibgaaDoor
