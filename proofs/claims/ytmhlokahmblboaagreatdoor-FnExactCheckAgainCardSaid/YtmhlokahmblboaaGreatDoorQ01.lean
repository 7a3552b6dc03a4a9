/-
  Joined: Tk, Ints0, Prog0, InOK.
-/
import Derived.Test.YtmhlokahmblboaaGreatDoorProg
import Derived.Deep.RegionHeld3
import Derived.KernelRfl
import Derived.Tactics
import Derived.WalkKit
import Derived.WalkSpells
import Derived.WalkLawsBesides
import Derived.RegionTactic
import Derived.BigQuiet
import Derived.Deep.QuietTactic
import Derived.Deep.Slices
import Derived.Deep.Strs
import Derived.Deep.Fields
import Derived.ChangeSame

namespace Go.Proofs.YtmhlokahmblboaaGreatDoor
set_option maxRecDepth 100000
set_option maxHeartbeats 16000000
set_option linter.unusedVariables false

theorem tky {P : Program} {ops : Array Oper} {Q : Exit → Act → World → Prop} {md : Region.Mode} {S : World → Prop} {fuel : Nat} {listed : Array Bool} {a : Act} {w : World} {o1 : Op} {o2 : TypeId} {o3 : String} {o4 : Array Edge} {o5 : Option (Nat × Bool)}
    (i d : Nat) (v : Value) (h : wpAnyH P md ops Q S fuel (listed.setIfInBounds i true) (a.put (some d) v) w)
    (hi : ops[i]? = some { dst := some d, op := o1, type := o2, pos := o3, after := o4, guard := o5 } := by exact rfl)
    (hs : Region.noSelect ops = true := by kernel_rfl) (hf : Region.free md ops listed i = true := by kernel_rfl) (hr : (Region.ready md ops listed).contains i = true := by kernel_rfl)
    (hQ : ∀ c a w, Q (.panic c) (a.put (some d) v) w → Q (.panic c) a w := by exact (fun _ _ _ h => h))
    (hw : Region.wanted { dst := some d, op := o1, type := o2, pos := o3, after := o4, guard := o5 } (yielded ops a.tmps) = true := by rfl)
    (hS : S w := by assumption)
    (hy : ∀ w', S w' → (execOp a.eval { dst := some d, op := o1, type := o2, pos := o3, after := o4, guard := o5 }).run P w' = .ok (.value v) w' := by (intro w' hSw; (try dsimp only at hSw); go_simp; try rfl)) : wpAnyH P md ops Q S (fuel + 1) listed a w :=
  wpAnyH_take hi hs hf hr hQ (Or.inl ⟨hw, hy⟩) hS h
theorem tkm {P : Program} {ops : Array Oper} {Q : Exit → Act → World → Prop} {md : Region.Mode} {S : World → Prop} {fuel : Nat} {listed : Array Bool} {a : Act} {w : World} {b : Act} {o1 : Op} {o2 : TypeId} {o3 : String} {o4 : Array Edge} {o5 : Option (Nat × Bool)}
    (i d : Nat) (v : Value) (h : wpAnyH P md ops Q S fuel (listed.setIfInBounds i true) b w)
    (hi : ops[i]? = some { dst := some d, op := o1, type := o2, pos := o3, after := o4, guard := o5 } := by exact rfl)
    (hs : Region.noSelect ops = true := by kernel_rfl) (hf : Region.free md ops listed i = true := by kernel_rfl) (hr : (Region.ready md ops listed).contains i = true := by kernel_rfl)
    (hQ : ∀ c a w, Q (.panic c) (a.put (some d) v) w → Q (.panic c) a w := by exact (fun _ _ _ h => h))
    (hw : Region.wanted { dst := some d, op := o1, type := o2, pos := o3, after := o4, guard := o5 } (yielded ops a.tmps) = true := by rfl)
    (hS : S w := by assumption)
    (hb : a.put (some d) v = b := by (simp only [Act.put, List.setIfInBounds_toArray, List.set_cons_zero, List.set_cons_succ]; exact rfl))
    (hy : ∀ w', S w' → (execOp a.eval { dst := some d, op := o1, type := o2, pos := o3, after := o4, guard := o5 }).run P w' = .ok (.value v) w' := by (intro w' hSw; (try dsimp only at hSw); go_simp; try rfl)) : wpAnyH P md ops Q S (fuel + 1) listed a w :=
  wpAnyH_take hi hs hf hr hQ (Or.inl ⟨hw, hy⟩) hS (hb ▸ h)
theorem tkw {P : Program} {ops : Array Oper} {Q : Exit → Act → World → Prop} {md : Region.Mode} {S : World → Prop} {fuel : Nat} {listed : Array Bool} {a : Act} {w : World} {o1 : Op} {o2 : TypeId} {o3 : String} {o4 : Array Edge} {o5 : Option (Nat × Bool)}
    (i d : Nat) (v : Value) (h : wpAnyH P md ops Q S fuel (listed.setIfInBounds i true) (a.put (some d) v) w)
    (hi : ops[i]? = some { dst := some d, op := o1, type := o2, pos := o3, after := o4, guard := o5 } := by exact rfl)
    (hs : Region.noSelect ops = true := by kernel_rfl) (hf : Region.free md ops listed i = true := by kernel_rfl) (hr : (Region.ready md ops listed).contains i = true := by kernel_rfl)
    (hQ : ∀ c a w, Q (.panic c) (a.put (some d) v) w → Q (.panic c) a w := by exact (fun _ _ _ h => h))
    (hw : Region.wanted { dst := some d, op := o1, type := o2, pos := o3, after := o4, guard := o5 } (yielded ops a.tmps) = true := by rfl)
    (hS : S w := by assumption)
    (hy : ∀ w', S w' → (execOp a.eval { dst := some d, op := o1, type := o2, pos := o3, after := o4, guard := o5 }).run P w' = .ok (.value v) w' := by (intro w' hSw; (try dsimp only at hSw); go_simp; first | done | rfl | omega | (intro h9; omega) | (rw [IntKind.wrap_i64]; omega))) : wpAnyH P md ops Q S (fuel + 1) listed a w :=
  wpAnyH_take hi hs hf hr hQ (Or.inl ⟨hw, hy⟩) hS h
theorem tkv {P : Program} {ops : Array Oper} {Q : Exit → Act → World → Prop} {md : Region.Mode} {S : World → Prop} {fuel : Nat} {listed : Array Bool} {a : Act} {w : World} {b : Act} {o1 : Op} {o2 : TypeId} {o3 : String} {o4 : Array Edge} {o5 : Option (Nat × Bool)}
    (i d : Nat) (v : Value) (h : wpAnyH P md ops Q S fuel (listed.setIfInBounds i true) b w)
    (hi : ops[i]? = some { dst := some d, op := o1, type := o2, pos := o3, after := o4, guard := o5 } := by exact rfl)
    (hs : Region.noSelect ops = true := by kernel_rfl) (hf : Region.free md ops listed i = true := by kernel_rfl) (hr : (Region.ready md ops listed).contains i = true := by kernel_rfl)
    (hQ : ∀ c a w, Q (.panic c) (a.put (some d) v) w → Q (.panic c) a w := by exact (fun _ _ _ h => h))
    (hw : Region.wanted { dst := some d, op := o1, type := o2, pos := o3, after := o4, guard := o5 } (yielded ops a.tmps) = true := by rfl)
    (hS : S w := by assumption)
    (hb : a.put (some d) v = b := by (simp only [Act.put, List.setIfInBounds_toArray, List.set_cons_zero, List.set_cons_succ]; exact rfl))
    (hy : ∀ w', S w' → (execOp a.eval { dst := some d, op := o1, type := o2, pos := o3, after := o4, guard := o5 }).run P w' = .ok (.value v) w' := by (intro w' hSw; (try dsimp only at hSw); go_simp; first | done | rfl | omega | (intro h9; omega) | (rw [IntKind.wrap_i64]; omega))) : wpAnyH P md ops Q S (fuel + 1) listed a w :=
  wpAnyH_take hi hs hf hr hQ (Or.inl ⟨hw, hy⟩) hS (hb ▸ h)
theorem tku {P : Program} {ops : Array Oper} {Q : Exit → Act → World → Prop} {md : Region.Mode} {S : World → Prop} {fuel : Nat} {listed : Array Bool} {a : Act} {w : World} {b : Act} {o1 : Op} {o2 : TypeId} {o3 : String} {o4 : Array Edge} {o5 : Option (Nat × Bool)}
    (i d : Nat) (h : wpAnyH P md ops Q S fuel (listed.setIfInBounds i true) b w)
    (hi : ops[i]? = some { dst := some d, op := o1, type := o2, pos := o3, after := o4, guard := o5 } := by exact rfl)
    (hs : Region.noSelect ops = true := by kernel_rfl) (hf : Region.free md ops listed i = true := by kernel_rfl) (hr : (Region.ready md ops listed).contains i = true := by kernel_rfl)
    (hQ : ∀ c a w, Q (.panic c) (a.put (some d) undef) w → Q (.panic c) a w := by exact (fun _ _ _ h => h))
    (hw : Region.wanted { dst := some d, op := o1, type := o2, pos := o3, after := o4, guard := o5 } (yielded ops a.tmps) = false := by rfl)
    (hS : S w := by assumption)
    (hb : a.put (some d) undef = b := by (simp only [Act.put, List.setIfInBounds_toArray, List.set_cons_zero, List.set_cons_succ]; exact rfl)) : wpAnyH P md ops Q S (fuel + 1) listed a w :=
  wpAnyH_take hi hs hf hr hQ (Or.inr ⟨hw, rfl⟩) hS (hb ▸ h)
theorem tkr {P : Program} {ops : Array Oper} {Q : Exit → Act → World → Prop} {md : Region.Mode} {S : World → Prop} {fuel : Nat} {listed : Array Bool} {a : Act} {w : World} {o1 : Op} {o2 : TypeId} {o3 : String} {o4 : Array Edge} {o5 : Option (Nat × Bool)}
    (i d : Nat) (h : ∀ K' : Act → World → Prop, Shut (∀ a w, S w → (S w → wpAnyH P md ops Q S fuel (listed.setIfInBounds i true) a w) → K' a w) → if Region.wanted { dst := some d, op := o1, type := o2, pos := o3, after := o4, guard := o5 } (yielded ops a.tmps) = true then Oper.wp P { dst := some d, op := o1, type := o2, pos := o3, after := o4, guard := o5 } a w K' Q else K' (a.put (some d) undef) w)
    (hi : ops[i]? = some { dst := some d, op := o1, type := o2, pos := o3, after := o4, guard := o5 } := by exact rfl)
    (hr : Region.ready md ops listed = [i] := by kernel_rfl) : wpAnyH P md ops Q S (fuel + 1) listed a w :=
  wpAnyH_ready hr (by simp) (AllReadyH.cons hi h AllReadyH.nil)
theorem tkz {P : Program} {ops : Array Oper} {Q : Exit → Act → World → Prop} {md : Region.Mode} {S : World → Prop} {fuel : Nat} {listed : Array Bool} {a : Act} {w : World} {o1 : Op} {o2 : TypeId} {o3 : String} {o4 : Array Edge} {o5 : Option (Nat × Bool)}
    (i : Nat) (h : ∀ K' : Act → World → Prop, Shut (∀ a w, S w → (S w → wpAnyH P md ops Q S fuel (listed.setIfInBounds i true) a w) → K' a w) → if Region.wanted { dst := none, op := o1, type := o2, pos := o3, after := o4, guard := o5 } (yielded ops a.tmps) = true then Oper.wp P { dst := none, op := o1, type := o2, pos := o3, after := o4, guard := o5 } a w K' Q else K' (a.put none undef) w)
    (hi : ops[i]? = some { dst := none, op := o1, type := o2, pos := o3, after := o4, guard := o5 } := by exact rfl)
    (hr : Region.ready md ops listed = [i] := by kernel_rfl) : wpAnyH P md ops Q S (fuel + 1) listed a w :=
  wpAnyH_ready hr (by simp) (AllReadyH.cons hi h AllReadyH.nil)
theorem tka {α : Type} {l : List α} {i : Nat} {a : α} : l.toArray.setIfInBounds i a = (l.set i a).toArray := by simp
theorem tkb {α : Type} {x a : α} {l : List α} : (x :: l).set 0 a = a :: l := rfl
theorem tkc {α : Type} {x a : α} {l : List α} {i : Nat} : (x :: l).set (i + 1) a = x :: l.set i a := rfl

open Go.RowKit

def ZW (k:IntKind) (w:World) (a:Option Addr) (len cap:Nat) (zs:List Int):Prop:=
 zs.length=len∧len≤cap∧cap≤maxLen ∧
 (len=0∨∃ b off,a=some ⟨b,off,none⟩∧b<w.heap.size∧∀ t,t<len→w.cell? ⟨b,off+t,none⟩=some (.int k (zs.getD t 0)))

theorem WO {w:World} {b o:Nat} {v:Value} (h:w.cell? ⟨b,o,none⟩=some v):b<w.heap.size:=by
 rcases Nat.lt_or_ge b w.heap.size with h' | h'
 ·exact h'
 simp [World.cell?,Array.getElem?_eq_none h'] at h

theorem ZW.below {k:IntKind} {w w':World} {a:Option Addr} {len cap:Nat} {zs:List Int} (h:ZW k w a len cap zs) (hb:Below w.heap.size w w'):ZW k w' a len cap zs:=by
 obtain ⟨h1,h2,h3,h4⟩:=h
 refine ⟨h1,h2,h3,?_⟩
 rcases h4 with h4 | ⟨b,off,ha,hlt,hc⟩
 ·exact .inl h4
 exact .inr ⟨b,off,ha,by have:=hb.size;omega,fun t ht=>by rw [hb.cell (p:=⟨b,off+t,none⟩) hlt];exact hc t ht⟩

theorem ZW.of_owns {k:IntKind} {w:World} {base e n cap g:Nat} {zs:List Int} (h:w.ownsRow base e 1 (.slice (some ⟨g,0,none⟩) n cap) n (zs.map (Value.int k))):ZW k w (some ⟨g,0,none⟩) n cap zs:=by
 have hl:zs.length=n:=by simpa using h.1
 have hc:∀ t,t<n→w.cell? ⟨g,0+t,none⟩=some (.int k (zs.getD t 0)):=by
  intro t ht
  have:=h.cellAt t (by omega)
  rw [Nat.zero_add,this]
  simp [List.getElem?_eq_getElem (show t<zs.length by omega)]
 have hg:=(h.lt g rfl).2
 rcases h.2 with ⟨h0,_⟩ | ⟨g',cap',cur,hv,_,_,hn,hcap,_,_⟩
 ·cases h0
 cases hv
 exact ⟨hl,hn,hcap,.inr ⟨g,0,rfl,hg,hc⟩⟩

theorem Xp:(Tryz.prog.info? 3).map (fun i=>(i.zero,i.size,i.bytes))=some (some (.int .i64 0),1,8):=by kernel_rfl

theorem Q7 (n:Nat):(madeCells #[Value.int .i64 0] n).toList=(List.replicate n (0:Int)).map (Value.int .i64):=by
 rw [toList_madeCells_one,List.map_replicate]

open Go.RowKit Go.ChangeShapes Go.WideShapes

theorem Zb {a b c:World} (h:Below a.heap.size a b) (k:Below b.heap.size b c):Below a.heap.size a c:=h.trans (k.mono h.size)

abbrev I3:=Int × Int × Int

def I3.fits (x:I3):Prop:=(Lit.int .i64 x.1).wf=true∧(Lit.int .i64 x.2.1).wf=true∧(Lit.int .i64 x.2.2).wf=true

def I3.val (x:I3):Value:=.agg #[.int .i64 x.1,.int .i64 x.2.1,.int .i64 x.2.2]

def Zj (w:World) (a:Option Addr) (len cap:Nat) (xs:List I3):Prop:=
 xs.length=len∧len≤cap∧cap≤maxLen∧(∀ x ∈ xs,I3.fits x) ∧
 (len=0∨∃ b off,a=some ⟨b,off,none⟩∧b<w.heap.size∧∀ t,t<len →
  w.cell? ⟨b,off+t*3,none⟩=some (.int .i64 (xs.getD t (0,0,0)).1) ∧
  w.cell? ⟨b,off+t*3+1,none⟩=some (.int .i64 (xs.getD t (0,0,0)).2.1) ∧
  w.cell? ⟨b,off+t*3+2,none⟩=some (.int .i64 (xs.getD t (0,0,0)).2.2))

def Z1 (w:World) (a:Option Addr) (len cap:Nat) (P:List (List I3)):Prop:=
 P.length=len∧len≤cap∧cap≤maxLen ∧
 (len=0∨∃ b off,a=some ⟨b,off,none⟩∧b<w.heap.size∧∀ t,t<len →
  ∃ a' len' cap',w.cell? ⟨b,off+t,none⟩=some (.slice a' len' cap')∧Zj w a' len' cap' (P.getD t []))

theorem Zj.below {w w':World} {a:Option Addr} {len cap:Nat} {xs:List I3} (h:Zj w a len cap xs) (hb:Below w.heap.size w w'):Zj w' a len cap xs:=by
 obtain ⟨h1,h2,h3,hf,h4⟩:=h
 refine ⟨h1,h2,h3,hf,?_⟩
 rcases h4 with h4 | ⟨b,off,ha,hlt,hc⟩
 ·exact .inl h4
 refine .inr ⟨b,off,ha,by have:=hb.size;omega,fun t ht=>?_⟩
 obtain ⟨c0,c1,c2⟩:=hc t ht
 exact ⟨by rw [hb.cell (p:=⟨b,_,none⟩) hlt];exact c0,by rw [hb.cell (p:=⟨b,_,none⟩) hlt];exact c1,by rw [hb.cell (p:=⟨b,_,none⟩) hlt];exact c2⟩

theorem Z1.below {w w':World} {a:Option Addr} {len cap:Nat} {P:List (List I3)} (h:Z1 w a len cap P) (hb:Below w.heap.size w w'):Z1 w' a len cap P:=by
 obtain ⟨h1,h2,h3,h4⟩:=h
 refine ⟨h1,h2,h3,?_⟩
 rcases h4 with h4 | ⟨b,off,ha,hlt,hc⟩
 ·exact .inl h4
 refine .inr ⟨b,off,ha,by have:=hb.size;omega,fun t ht=>?_⟩
 obtain ⟨a',l',c',hcell,hi⟩:=hc t ht
 exact ⟨a',l',c',by rw [hb.cell (p:=⟨b,_,none⟩) hlt];exact hcell,hi.below hb⟩

section
variable {H : Type} {enc : TypeId × Value → H} {P : Program} {w : World} {base : Nat} {spare : Nat → Bool} {held : Bool}

theorem TZ {t:TypeId} {fuel:Nat} {F0 F1 F2:Field} {cs:List Value} {x:DataW H × List MemPlace}
  (ht:P.underlying t=some (.struct #[F0,F1,F2])) (hone:Go.Deep.oneCellFields P #[F0,F1,F2]=true) (hC:P.cellsOf t=3)
  (i0:P.underlying F0.type=some (.int .i64)) (i1:P.underlying F1.type=some (.int .i64)) (i2:P.underlying F2.type=some (.int .i64))
  (h:DataW.trod enc P w base spare held fuel t cs=some x):∃ y:I3,cs=[.int .i64 y.1,.int .i64 y.2.1,.int .i64 y.2.2]∧I3.fits y:=by
 obtain ⟨y0,y1,y2,n,hx,hl,h0,h1,h2⟩:=Go.Deep.trod_struct3 ht h
 rw [hC] at hl
 obtain ⟨o0,k0⟩:=Go.Deep.hone_of hone 0 F0 rfl
 obtain ⟨o1,k1⟩:=Go.Deep.hone_of hone 1 F1 rfl
 obtain ⟨o2,k2⟩:=Go.Deep.hone_of hone 2 F2 rfl
 match cs,hl with
 | [c0,c1,c2],_ =>
  simp only [o0,k0] at h0
  simp only [o1,k1] at h1
  simp only [o2,k2] at h2
  obtain ⟨m0,e0,_,f0⟩:=DataW.trod_int i0 h0
  obtain ⟨m1,e1,_,f1⟩:=DataW.trod_int i1 h1
  obtain ⟨m2,e2,_,f2⟩:=DataW.trod_int i2 h2
  simp at e0 e1 e2
  exact ⟨(m0,m1,m2),by simp [e0,e1,e2],f0,f1,f2⟩

theorem Sx {t e:TypeId} {fuel:Nat} {F0 F1 F2:Field} {v:Value} {x:DataW H × List MemPlace}
  (hs:P.underlying t=some (.slice e)) (ht:P.underlying e=some (.struct #[F0,F1,F2])) (hone:Go.Deep.oneCellFields P #[F0,F1,F2]=true) (hC:P.cellsOf e=3)
  (i0:P.underlying F0.type=some (.int .i64)) (i1:P.underlying F1.type=some (.int .i64)) (i2:P.underlying F2.type=some (.int .i64))
  (h:DataW.trod enc P w base spare held fuel t [v]=some x):∃ a len cap xs,v=.slice a len cap∧Zj w a len cap xs:=by
 rcases Go.Deep.open_slice hs h with ⟨hcs,_⟩ | ⟨a,len,cap,m,n,D,Pl,hcs,_,hl,hm,hmm,_,hx⟩
 ·simp at hcs
  exact ⟨none,0,0,[],hcs,rfl,Nat.le_refl _,by unfold maxLen;omega,by simp,.inl rfl⟩
 simp at hcs
 have hlm:len≤m:=by rw [hmm];split<;>omega
 obtain ⟨Y,hY⟩:=Go.Deep.choose_lt (α:=I3) (n:=len) (p:=fun i y=>w.cells? base (a.add (i*3)) 3=some [.int .i64 y.1,.int .i64 y.2.1,.int .i64 y.2.2]∧I3.fits y) (fun i hi=>by
  obtain ⟨cs',h1,h2⟩:=hx i (by omega)
  rw [hC] at h1
  obtain ⟨y,hy,hf⟩:=TZ ht hone hC i0 i1 i2 h2
  exact ⟨y,by rw [h1,hy],hf⟩)
 refine ⟨some a,len,cap,(List.range len).map Y,hcs,by simp,hl,hm,?_,?_⟩
 ·intro z hz
  obtain ⟨i,hi,rfl⟩:=List.mem_map.1 hz
  exact (hY i (List.mem_range.1 hi)).2
 rcases Nat.eq_zero_or_pos len with h0 | h0
 ·exact .inl h0
 right
 obtain ⟨b,off,spot⟩:=a
 have hc:=(World.cells?_some (hY 0 h0).1).2.2 0 (by omega)
 have hspot:spot=none:=by simpa [Addr.add] using World.cell?_spot hc
 subst hspot
 have e:∀ i,(⟨b,off,none⟩:Addr).add i=⟨b,off+i,none⟩:=fun i=>by unfold Addr.add;split<;>simp_all
 have e':∀ i j,(⟨b,off+i,none⟩:Addr).add j=⟨b,off+i+j,none⟩:=fun i j=>by unfold Addr.add;split<;>simp_all
 have hall:∀ i,i<len→w.cell? ⟨b,off+i*3,none⟩=some (.int .i64 (((List.range len).map Y).getD i (0,0,0)).1) ∧
   w.cell? ⟨b,off+i*3+1,none⟩=some (.int .i64 (((List.range len).map Y).getD i (0,0,0)).2.1) ∧
   w.cell? ⟨b,off+i*3+2,none⟩=some (.int .i64 (((List.range len).map Y).getD i (0,0,0)).2.2):=by
  intro i hi
  have hcs:=(World.cells?_some (hY i hi).1).2.2
  have g:((List.range len).map Y).getD i (0,0,0)=Y i:=by simp [List.getD,hi]
  rw [g]
  have c0:=hcs 0 (by omega)
  have c1:=hcs 1 (by omega)
  have c2:=hcs 2 (by omega)
  rw [e,e'] at c0 c1 c2
  exact ⟨by simpa using c0,by simpa using c1,by simpa using c2⟩
 exact ⟨b,off,rfl,WO (hall 0 h0).1,hall⟩

theorem La {s t e:TypeId} {fuel:Nat} {F0 F1 F2:Field} {v:Value} {x:DataW H × List MemPlace}
  (hss:P.underlying s=some (.slice t)) (h1:P.cellsOf t=1)
  (hs:P.underlying t=some (.slice e)) (ht:P.underlying e=some (.struct #[F0,F1,F2])) (hone:Go.Deep.oneCellFields P #[F0,F1,F2]=true) (hC:P.cellsOf e=3)
  (i0:P.underlying F0.type=some (.int .i64)) (i1:P.underlying F1.type=some (.int .i64)) (i2:P.underlying F2.type=some (.int .i64))
  (h:DataW.trod enc P w base spare held fuel s [v]=some x):∃ a len cap xss,v=.slice a len cap∧Z1 w a len cap xss:=by
 rcases Go.Deep.open_slice1 hss h1 h with ⟨hcs,_⟩ | ⟨a,len,cap,m,n,V,D,Pl,hcs,_,hl,hm,hmm,_,hx⟩
 ·simp at hcs
  exact ⟨none,0,0,[],hcs,rfl,Nat.le_refl _,by unfold maxLen;omega,.inl rfl⟩
 simp at hcs
 have hlm:len≤m:=by rw [hmm];split<;>omega
 obtain ⟨Y,hY⟩:=Go.Deep.choose_lt (α:=List I3) (n:=len) (p:=fun i y=>∃ a' len' cap',w.cell? (a.add i)=some (.slice a' len' cap')∧Zj w a' len' cap' y) (fun i hi=>by
  obtain ⟨hc,ho⟩:=hx i (by omega)
  obtain ⟨a',l',c',xs,hv,hi'⟩:=Sx hs ht hone hC i0 i1 i2 ho
  exact ⟨xs,a',l',c',by rw [hc,hv],hi'⟩)
 refine ⟨some a,len,cap,(List.range len).map Y,hcs,by simp,hl,hm,?_⟩
 rcases Nat.eq_zero_or_pos len with h0 | h0
 ·exact .inl h0
 right
 obtain ⟨b,off,spot⟩:=a
 obtain ⟨_,_,_,hc,_⟩:=hY 0 h0
 have hspot:spot=none:=by simpa [Addr.add] using World.cell?_spot hc
 subst hspot
 have e:∀ i,(⟨b,off,none⟩:Addr).add i=⟨b,off+i,none⟩:=fun i=>by unfold Addr.add;split<;>simp_all
 have hall:∀ i,i<len→∃ a' len' cap',w.cell? ⟨b,off+i,none⟩=some (.slice a' len' cap')∧Zj w a' len' cap' (((List.range len).map Y).getD i []):=by
  intro i hi
  have g:((List.range len).map Y).getD i []=Y i:=by simp [List.getD,hi]
  rw [g,← e]
  exact hY i hi
 obtain ⟨_,_,_,hc0,_⟩:=hall 0 h0
 exact ⟨b,off,rfl,WO hc0,hall⟩
end

theorem open_laws_Program {H:Type} {enc:TypeId × Value→H} {w:World} {base:Nat} {spare:Nat→Bool} {held:Bool} {r:Reach} {b0:Nat} {v:Value} {d:DataW H} {p:List MemPlace}
  (hv:Value.okWide Tryz.prog w r b0 37 v) (h:DataW.Trod enc Tryz.prog w base spare held 37 v d p):∃ a len cap xss,v=.agg #[.slice a len cap]∧Z1 w a len cap xss:=by
 obtain ⟨cs,rfl,hsz⟩:=okWide_struct Tryz.underlying37 hv
 have hsz':cs.size=1:=hsz.trans (by kernel_rfl)
 obtain ⟨fuel,hf⟩:=h
 obtain ⟨y0,n,_,_,h0⟩:=trod_struct1 Tryz.underlying37 hf
 obtain ⟨c,rfl⟩:∃ c,cs=#[c]:=by
  obtain ⟨l⟩:=cs
  match l,hsz' with
  | [c],_=>exact ⟨c,rfl⟩
 have hk:Tryz.prog.cellsOf 35=1:=by kernel_rfl
 simp only [Value.cells,hk] at h0
 obtain ⟨a,len,cap,xss,hc,hC⟩:=La Tryz.underlying35 (by kernel_rfl) Tryz.underlying166 Tryz.underlying235 (by kernel_rfl) (by kernel_rfl) Tryz.underlying3 Tryz.underlying3 Tryz.underlying3 h0
 exact ⟨a,len,cap,xss,by rw [hc],hC⟩


theorem Ui (n a b:Int) (w:World) (h:a≤n∧n≤b):Calls Tryz.prog 98 #[.int .i64 n,.int .i64 a,.int .i64 b] w fun e w'=>e=.returned (.bool true)∧w=w':=by
 obtain ⟨h1,h2⟩:=h
 go_enter Tryz.func98,Tryz.ntmps98
 go_wp2
 go_ret
 exact ⟨rfl,rfl⟩
theorem Ta (n a b:Int) (w:World) (h:¬ (a≤n∧n≤b)):Calls Tryz.prog 98 #[.int .i64 n,.int .i64 a,.int .i64 b] w fun e w'=>e=.returned (.bool false)∧w=w':=by
 by_cases h1:a≤n
 ·have h2:decide (n≤b)=false:=by simp;omega
  clear h
  go_enter Tryz.func98,Tryz.ntmps98
  go_wp2
  go_ret
  exact ⟨rfl,rfl⟩
 clear h
 go_enter Tryz.func98,Tryz.ntmps98
 go_wp2
 go_ret
 exact ⟨rfl,rfl⟩

end Go.Proofs.YtmhlokahmblboaaGreatDoor
