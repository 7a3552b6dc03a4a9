/-
  Joined: Tk, Ints0, Src, Src2, Prog0, Prog2, Prog3, MarkP, Ops.
-/
import Derived.Test.YtifoggpohlegmaaGreatDoorProg
import Derived.Deep.RegionHeld3
import Derived.KernelRfl
import Derived.Tactics
import Derived.WalkKit
import Derived.WalkSpells
import Derived.WalkLawsBesides
import Derived.RegionTactic
import Derived.BigQuiet
import Derived.Deep.QuietTactic
import Derived.BigRegion
import Derived.Deep.Slices
import Derived.Deep.Strs
import Derived.Deep.Fields
import Derived.ChangeSame
import Derived.Handy
import Derived.OwnWalk

namespace Go.Proofs.YtifoggpohlegmaaGreatDoor
set_option maxRecDepth 100000
set_option maxHeartbeats 16000000
set_option linter.unusedVariables false

theorem tkx {P : Program} {ops : Array Oper} {Q : Exit → Act → World → Prop} {md : Region.Mode} {S : World → Prop} {fuel : Nat} {listed : Array Bool} {a : Act} {w : World} {o1 : Op} {o2 : TypeId} {o3 : String} {o4 : Array Edge} {o5 : Option (Nat × Bool)}
    (i d : Nat) (v : Value) (hy : ∀ w', S w' → (execOp a.eval { dst := some d, op := o1, type := o2, pos := o3, after := o4, guard := o5 }).run P w' = .ok (.value v) w')
    (h : wpAnyH P md ops Q S fuel (listed.setIfInBounds i true) (a.put (some d) v) w)
    (hi : ops[i]? = some { dst := some d, op := o1, type := o2, pos := o3, after := o4, guard := o5 } := by exact rfl)
    (hs : Region.noSelect ops = true := by kernel_rfl) (hf : Region.free md ops listed i = true := by kernel_rfl) (hr : (Region.ready md ops listed).contains i = true := by kernel_rfl)
    (hQ : ∀ c a w, Q (.panic c) (a.put (some d) v) w → Q (.panic c) a w := by exact (fun _ _ _ h => h))
    (hw : Region.wanted { dst := some d, op := o1, type := o2, pos := o3, after := o4, guard := o5 } (yielded ops a.tmps) = true := by rfl)
    (hS : S w := by assumption) : wpAnyH P md ops Q S (fuel + 1) listed a w :=
  wpAnyH_take hi hs hf hr hQ (Or.inl ⟨hw, hy⟩) hS h
theorem tkm {P : Program} {ops : Array Oper} {Q : Exit → Act → World → Prop} {md : Region.Mode} {S : World → Prop} {fuel : Nat} {listed : Array Bool} {a : Act} {w : World} {b : Act} {o1 : Op} {o2 : TypeId} {o3 : String} {o4 : Array Edge} {o5 : Option (Nat × Bool)}
    (i d : Nat) (v : Value) (h : wpAnyH P md ops Q S fuel (listed.setIfInBounds i true) b w)
    (hi : ops[i]? = some { dst := some d, op := o1, type := o2, pos := o3, after := o4, guard := o5 } := by exact rfl)
    (hs : Region.noSelect ops = true := by kernel_rfl) (hf : Region.free md ops listed i = true := by kernel_rfl) (hr : (Region.ready md ops listed).contains i = true := by kernel_rfl)
    (hQ : ∀ c a w, Q (.panic c) (a.put (some d) v) w → Q (.panic c) a w := by exact (fun _ _ _ h => h))
    (hw : Region.wanted { dst := some d, op := o1, type := o2, pos := o3, after := o4, guard := o5 } (yielded ops a.tmps) = true := by rfl)
    (hS : S w := by assumption)
    (hb : a.put (some d) v = b := by (simp only [Act.put, List.setIfInBounds_toArray, List.set_cons_zero, List.set_cons_succ]; exact rfl))
    (hy : ∀ w', S w' → (execOp a.eval { dst := some d, op := o1, type := o2, pos := o3, after := o4, guard := o5 }).run P w' = .ok (.value v) w' := by (intro w' hSw; (try dsimp only at hSw); go_simp; try rfl)) : wpAnyH P md ops Q S (fuel + 1) listed a w :=
  wpAnyH_take hi hs hf hr hQ (Or.inl ⟨hw, hy⟩) hS (hb ▸ h)
theorem tku {P : Program} {ops : Array Oper} {Q : Exit → Act → World → Prop} {md : Region.Mode} {S : World → Prop} {fuel : Nat} {listed : Array Bool} {a : Act} {w : World} {b : Act} {o1 : Op} {o2 : TypeId} {o3 : String} {o4 : Array Edge} {o5 : Option (Nat × Bool)}
    (i d : Nat) (h : wpAnyH P md ops Q S fuel (listed.setIfInBounds i true) b w)
    (hi : ops[i]? = some { dst := some d, op := o1, type := o2, pos := o3, after := o4, guard := o5 } := by exact rfl)
    (hs : Region.noSelect ops = true := by kernel_rfl) (hf : Region.free md ops listed i = true := by kernel_rfl) (hr : (Region.ready md ops listed).contains i = true := by kernel_rfl)
    (hQ : ∀ c a w, Q (.panic c) (a.put (some d) undef) w → Q (.panic c) a w := by exact (fun _ _ _ h => h))
    (hw : Region.wanted { dst := some d, op := o1, type := o2, pos := o3, after := o4, guard := o5 } (yielded ops a.tmps) = false := by rfl)
    (hS : S w := by assumption)
    (hb : a.put (some d) undef = b := by (simp only [Act.put, List.setIfInBounds_toArray, List.set_cons_zero, List.set_cons_succ]; exact rfl)) : wpAnyH P md ops Q S (fuel + 1) listed a w :=
  wpAnyH_take hi hs hf hr hQ (Or.inr ⟨hw, rfl⟩) hS (hb ▸ h)
theorem tkr {P : Program} {ops : Array Oper} {Q : Exit → Act → World → Prop} {md : Region.Mode} {S : World → Prop} {fuel : Nat} {listed : Array Bool} {a : Act} {w : World} {o1 : Op} {o2 : TypeId} {o3 : String} {o4 : Array Edge} {o5 : Option (Nat × Bool)}
    (i d : Nat) (h : ∀ K' : Act → World → Prop, Shut (∀ a w, S w → (S w → wpAnyH P md ops Q S fuel (listed.setIfInBounds i true) a w) → K' a w) → if Region.wanted { dst := some d, op := o1, type := o2, pos := o3, after := o4, guard := o5 } (yielded ops a.tmps) = true then Oper.wp P { dst := some d, op := o1, type := o2, pos := o3, after := o4, guard := o5 } a w K' Q else K' (a.put (some d) undef) w)
    (hi : ops[i]? = some { dst := some d, op := o1, type := o2, pos := o3, after := o4, guard := o5 } := by exact rfl)
    (hr : Region.ready md ops listed = [i] := by kernel_rfl) : wpAnyH P md ops Q S (fuel + 1) listed a w :=
  wpAnyH_ready hr (by simp) (AllReadyH.cons hi h AllReadyH.nil)
theorem tkz {P : Program} {ops : Array Oper} {Q : Exit → Act → World → Prop} {md : Region.Mode} {S : World → Prop} {fuel : Nat} {listed : Array Bool} {a : Act} {w : World} {o1 : Op} {o2 : TypeId} {o3 : String} {o4 : Array Edge} {o5 : Option (Nat × Bool)}
    (i : Nat) (h : ∀ K' : Act → World → Prop, Shut (∀ a w, S w → (S w → wpAnyH P md ops Q S fuel (listed.setIfInBounds i true) a w) → K' a w) → if Region.wanted { dst := none, op := o1, type := o2, pos := o3, after := o4, guard := o5 } (yielded ops a.tmps) = true then Oper.wp P { dst := none, op := o1, type := o2, pos := o3, after := o4, guard := o5 } a w K' Q else K' (a.put none undef) w)
    (hi : ops[i]? = some { dst := none, op := o1, type := o2, pos := o3, after := o4, guard := o5 } := by exact rfl)
    (hr : Region.ready md ops listed = [i] := by kernel_rfl) : wpAnyH P md ops Q S (fuel + 1) listed a w :=
  wpAnyH_ready hr (by simp) (AllReadyH.cons hi h AllReadyH.nil)
theorem tka {α : Type} {l : List α} {i : Nat} {a : α} : l.toArray.setIfInBounds i a = (l.set i a).toArray := by simp
theorem tkb {α : Type} {x a : α} {l : List α} : (x :: l).set 0 a = a :: l := rfl
theorem tkc {α : Type} {x a : α} {l : List α} {i : Nat} : (x :: l).set (i + 1) a = x :: l.set i a := rfl

open Go.RowKit

def IsRow (k:IntKind) (w:World) (a:Option Addr) (len cap:Nat) (zs:List Int):Prop:=
 (a=none∧len=0∧cap=0∧zs=[]) ∨
 ∃ x,a=some x∧len≤cap∧cap≤maxLen∧zs.length=cap∧(∀ i,i<zs.length→w.cell? (x.add i)=some (.int k (zs.getD i 0)))∧∀ n ∈ zs,(Lit.int k n).wf=true

def YV (k:IntKind) (w:World) (a:Option Addr) (len cap:Nat) (zs:List Int):Prop:=
 zs.length=len∧len≤cap∧cap≤maxLen ∧
 (len=0∨∃ b off,a=some ⟨b,off,none⟩∧b<w.heap.size∧∀ t,t<len→w.cell? ⟨b,off+t,none⟩=some (.int k (zs.getD t 0)))

theorem MS {w:World} {b o:Nat} {v:Value} (h:w.cell? ⟨b,o,none⟩=some v):b<w.heap.size:=by
 rcases Nat.lt_or_ge b w.heap.size with h' | h'
 ·exact h'
 simp [World.cell?,Array.getElem?_eq_none h'] at h

theorem YV.of_isRow {k:IntKind} {w:World} {a:Option Addr} {len cap:Nat} {zs:List Int} (h:IsRow k w a len cap zs):YV k w a len cap (zs.take len):=by
 rcases h with ⟨rfl,rfl,rfl,rfl⟩ | ⟨x,rfl,hl,hm,hz,hcell,_⟩
 ·exact ⟨rfl,Nat.le_refl _,by unfold maxLen;omega,.inl rfl⟩
 refine ⟨by simp;omega,hl,hm,?_⟩
 rcases Nat.eq_zero_or_pos len with h0 | h0
 ·exact .inl h0
 right
 obtain ⟨b,off,spot⟩:=x
 have hc:=hcell 0 (by omega)
 have hspot:spot=none:=by simpa [Addr.add] using World.cell?_spot hc
 subst hspot
 have hall:∀ t,t<len→w.cell? ⟨b,off+t,none⟩=some (.int k ((zs.take len).getD t 0)):=by
  intro t ht
  have:=hcell t (by omega)
  have e:(⟨b,off,none⟩:Addr).add t=⟨b,off+t,none⟩:=by unfold Addr.add;split<;>simp_all
  rw [e] at this
  rw [this]
  simp [List.getD,ht]
 exact ⟨b,off,rfl,MS (hall 0 h0),hall⟩

theorem YV.below {k:IntKind} {w w':World} {a:Option Addr} {len cap:Nat} {zs:List Int} (h:YV k w a len cap zs) (hb:Below w.heap.size w w'):YV k w' a len cap zs:=by
 obtain ⟨h1,h2,h3,h4⟩:=h
 refine ⟨h1,h2,h3,?_⟩
 rcases h4 with h4 | ⟨b,off,ha,hlt,hc⟩
 ·exact .inl h4
 exact .inr ⟨b,off,ha,by have:=hb.size;omega,fun t ht=>by rw [hb.cell (p:=⟨b,off+t,none⟩) hlt];exact hc t ht⟩

theorem YV.of_owns {k:IntKind} {w:World} {base e n cap g:Nat} {zs:List Int} (h:w.ownsRow base e 1 (.slice (some ⟨g,0,none⟩) n cap) n (zs.map (Value.int k))):YV k w (some ⟨g,0,none⟩) n cap zs:=by
 have hl:zs.length=n:=by simpa using h.1
 have hc:∀ t,t<n→w.cell? ⟨g,0+t,none⟩=some (.int k (zs.getD t 0)):=by
  intro t ht
  have:=h.cellAt t (by omega)
  rw [Nat.zero_add,this]
  simp [List.getElem?_eq_getElem (show t<zs.length by omega)]
 have hg:=(h.lt g rfl).2
 rcases h.2 with ⟨h0,_⟩ | ⟨g',cap',cur,hv,_,_,hn,hcap,_,_⟩
 ·cases h0
 cases hv
 exact ⟨hl,hn,hcap,.inr ⟨g,0,rfl,hg,hc⟩⟩

theorem Xe:(Tryz.prog.info? 3).map (fun i=>(i.zero,i.size,i.bytes))=some (some (.int .i64 0),1,8):=by kernel_rfl

theorem QX (n:Nat):(madeCells #[Value.int .i64 0] n).toList=(List.replicate n (0:Int)).map (Value.int .i64):=by
 rw [toList_madeCells_one,List.map_replicate]


def Src (w:World) (p:Nat) (c:Value) (T:Nat):Prop:=∃ m sd:Nat,w.heap[p]?=some (.cells #[c,.int .i64 m,.int .i64 sd] 157 (0,0))∧m≤T∧sd≤2147483647
def UK (w:World) (p:Nat) (a:Option Addr) (n cap:Nat):Prop:=∃ zs:List Int,YV .u8 w a n cap zs∧(∀ z ∈ zs,0≤z∧z≤255)∧n≤1048576∧∀ x,a=some x→n≠0→x.block<p

theorem UJ {w:World} {p:Nat} {c x y:Value} {t:TypeId} (h:w.heap[p]?=some (.cells #[c,x,y] t (0,0))) :
  w.cell? ⟨p,0,none⟩=some c∧w.cell? ⟨p,1,none⟩=some x∧w.cell? ⟨p,2,none⟩=some y∧w.frozen? ⟨p,1,none⟩=false∧w.frozen? ⟨p,2,none⟩=false:=
 ⟨by rw [cell_of_row w p 0 _ _ _ h];rfl,by rw [cell_of_row w p 1 _ _ _ h];rfl,by rw [cell_of_row w p 2 _ _ _ h];rfl,frozen_of_row w p 1 _ _ h,frozen_of_row w p 2 _ _ h⟩

def To (p:Nat) (w w':World):Prop:=Below p w w'∧w'.heap.size=w.heap.size∧∀ k,k≠p→w'.heap[k]?=w.heap[k]?

theorem Tt (p T:Nat) (a:Option Addr) (n cap:Nat) (w:World) (hS:Src w p (.slice a n cap) T) (hC:UK w p a n cap) (hT:T≤1000000) :
  Calls Tryz.prog 166 #[.pointer (some ⟨p,0,none⟩)] w fun e w'=>(∃ v:Nat,v≤255∧e=.returned (.int .i64 v))∧Src w' p (.slice a n cap) (T+1)∧To p w w':=by
 obtain ⟨m,sd,hh,hm,hsd⟩:=hS
 obtain ⟨c0,c1,c2,f1,f2⟩:=UJ hh
 obtain ⟨zs,⟨hl,hlc,hcm,hcase⟩,hz,hn,hbelow⟩:=hC
 unfold maxLen at hcm
 by_cases hin:m+1≤n
 ·rcases hcase with h0 | ⟨b,off,rfl,hblt,hcell⟩
  ·omega
  have hbp:b<p:=hbelow _ rfl (by omega)
  have hbp':¬ b=p:=by omega
  have hcz:=hcell m (by omega)
  have hzz:=hz _ (show zs.getD m 0 ∈ zs by simp [List.getElem?_eq_getElem (show m<zs.length by omega)])
  generalize zs.getD m 0=z at hcz hzz
  obtain ⟨z1,z2⟩:=hzz
  have hml:(m:Int)+1≤(n:Int):=by omega
  have hml2:(m:Int)<(n:Int):=by omega
  have hd1:decide ((m:Int)+1≤(n:Int))=true:=by simp;omega
  clear hcell hz hbelow hl
  go_enter Tryz.func166,Tryz.ntmps166
  go_wp2
  have hh1:=heap_setCell_same w p 1 _ _ (.int .i64 ((m:Int)+1)) hh
  have hoth1:∀ k,k≠p→(w.setCell ⟨p,1,none⟩ (.int .i64 ((m:Int)+1))).heap[k]?=w.heap[k]?:=fun k hk=>heap_setCell_other w ⟨p,1,none⟩ k _ hk
  have hbel1:Below p w (w.setCell ⟨p,1,none⟩ (.int .i64 ((m:Int)+1))):=Below.setCell (Below.refl p w) (p:=⟨p,1,none⟩) (Nat.le_refl p) _
  have hsz1:(w.setCell ⟨p,1,none⟩ (.int .i64 ((m:Int)+1))).heap.size=w.heap.size:=by simp [World.setCell]
  obtain ⟨W1,hW1⟩:∃ W1,W1=w.setCell ⟨p,1,none⟩ (.int .i64 ((m:Int)+1)):=⟨_,rfl⟩
  rw [← hW1] at hh1 hoth1 hbel1 hsz1
  rw [← hW1]
  have hh1':W1.heap[p]?=some (.cells #[.slice (some ⟨b,off,none⟩) n cap,.int .i64 ((m:Int)+1),.int .i64 sd] 157 (0,0)):=hh1
  obtain ⟨d0,d1,d2,g1,g2⟩:=UJ hh1'
  have hcz1:W1.cell? ⟨b,off+m,none⟩=some (.int .u8 z):=by rw [hbel1.cell (p:=⟨b,off+m,none⟩) hbp];exact hcz
  have H1:Hid ((∀ k,k≠p→W1.heap[k]?=w.heap[k]?)∧Below p w W1∧W1.heap.size=w.heap.size∧W1.heap[p]?=some (.cells #[.slice (some ⟨b,off,none⟩) n cap,.int .i64 ((m:Int)+1),.int .i64 sd] 157 (0,0))):=⟨hoth1,hbel1,hsz1,hh1'⟩
  clear hW1 hh1 hh1' hoth1 hbel1 hsz1 c0 c1 c2 f1 f2 hcz hh
  have q1:IntKind.i64.wrap ((sd:Int)*31)=(sd:Int)*31:=IntWalk.i64_in _ ⟨by omega,by omega⟩
  have q2:IntKind.i64.wrap ((m:Int)+1 - 1)=(m:Int):=by rw [IntWalk.i64_in _ ⟨by omega,by omega⟩];omega
  have q3:IntKind.i64.wrap z=z:=IntWalk.i64_in _ ⟨by omega,by omega⟩
  have q4:IntKind.i64.wrap ((sd:Int)*31+z)=(sd:Int)*31+z:=IntWalk.i64_in _ ⟨by omega,by omega⟩
  have q5:IntKind.i64.wrap ((sd:Int)*31+z+7)=(sd:Int)*31+z+7:=IntWalk.i64_in _ ⟨by omega,by omega⟩
  have q6:((sd:Int)*31+z+7).tmod 2147483648=((sd:Int)*31+z+7) % 2147483648:=Int.tmod_eq_emod_of_nonneg (by omega)
  go_quiet (fail)
  go_wp2
  go_region
  go_wp2
  clear q1 q4 q5 q6 d2 d0 d1 g1 g2
  have H2:Hid (∀ W2,W2=(W1.drewN (nq+1)).setCell ⟨p,2,none⟩ (.int .i64 (((sd:Int)*31+z+7) % 2147483648))→Src W2 p (.slice (some ⟨b,off,none⟩) n cap) (T+1)∧To p w W2∧W2.cell? ⟨p,0,none⟩=some (.slice (some ⟨b,off,none⟩) n cap)∧W2.cell? ⟨p,1,none⟩=some (.int .i64 ((m:Int)+1))∧W2.cell? ⟨b,off+m,none⟩=some (.int .u8 z)):=by
   intro W2 hW2
   obtain ⟨ho,hbe,hsz,hhp⟩:=H1.out
   have hhp':(W1.drewN (nq+1)).heap[p]?=some (.cells #[.slice (some ⟨b,off,none⟩) n cap,.int .i64 ((m:Int)+1),.int .i64 sd] 157 (0,0)):=hhp
   have h2:=heap_setCell_same (W1.drewN (nq+1)) p 2 _ _ (.int .i64 (((sd:Int)*31+z+7) % 2147483648)) hhp'
   rw [← hW2] at h2
   have h2':W2.heap[p]?=some (.cells #[.slice (some ⟨b,off,none⟩) n cap,.int .i64 ((m+1:Nat):Int),.int .i64 ((((sd:Int)*31+z+7) % 2147483648).toNat:Nat)] 157 (0,0)):=by
    rw [h2,Int.toNat_of_nonneg (by omega)]
    rfl
   have hob:∀ k,k≠p→W2.heap[k]?=w.heap[k]?:=fun k hk=>by
    rw [hW2,heap_setCell_other _ ⟨p,2,none⟩ k _ hk]
    exact ho k hk
   have hbe2:Below p w W2:=by
    rw [hW2]
    exact Below.setCell (below_drewN hbe _) (p:=⟨p,2,none⟩) (Nat.le_refl p) _
   obtain ⟨e0,e1,_⟩:=UJ h2'
   refine ⟨⟨m+1,_,h2',by omega,by omega⟩,⟨hbe2,by rw [hW2];simp [World.setCell];exact hsz,hob⟩,e0,e1,?_⟩
   rw [hW2,World.cell?_of_block (w:=W1) (by rw [heap_setCell_other _ ⟨p,2,none⟩ b _ hbp'];rfl)]
   exact hcz1
  obtain ⟨W2,hW2⟩:∃ W2,W2=(W1.drewN (nq+1)).setCell ⟨p,2,none⟩ (.int .i64 (((sd:Int)*31+z+7) % 2147483648)):=⟨_,rfl⟩
  obtain ⟨hSrc,hStep,e0,e1,e2⟩:=H2.out W2 hW2
  rw [← hW2]
  have HSrc:Hid (Src W2 p (.slice (some ⟨b,off,none⟩) n cap) (T+1)):=hSrc
  have HStep:Hid (To p w W2):=hStep
  clear hW2 H2 H1 hcz1 hSrc hStep
  go_quiet (fail)
  go_wp2
  go_ret
  exact ⟨⟨z.toNat,by omega,by rw [Int.toNat_of_nonneg z1];rfl⟩,HSrc.out,⟨below_drewN HStep.out.1 _,HStep.out.2.1,HStep.out.2.2⟩⟩
 have hml:¬ (m:Int)+1≤(n:Int):=by omega
 clear hcase hz hbelow hl
 go_enter Tryz.func166,Tryz.ntmps166
 go_wp2
 have hh1:=heap_setCell_same w p 1 _ _ (.int .i64 ((m:Int)+1)) hh
 have hoth1:∀ k,k≠p→(w.setCell ⟨p,1,none⟩ (.int .i64 ((m:Int)+1))).heap[k]?=w.heap[k]?:=fun k hk=>heap_setCell_other w ⟨p,1,none⟩ k _ hk
 have hbel1:Below p w (w.setCell ⟨p,1,none⟩ (.int .i64 ((m:Int)+1))):=Below.setCell (Below.refl p w) (p:=⟨p,1,none⟩) (Nat.le_refl p) _
 have hsz1:(w.setCell ⟨p,1,none⟩ (.int .i64 ((m:Int)+1))).heap.size=w.heap.size:=by simp [World.setCell]
 obtain ⟨W1,hW1⟩:∃ W1,W1=w.setCell ⟨p,1,none⟩ (.int .i64 ((m:Int)+1)):=⟨_,rfl⟩
 rw [← hW1] at hh1 hoth1 hbel1 hsz1
 rw [← hW1]
 have hh1':W1.heap[p]?=some (.cells #[.slice a n cap,.int .i64 ((m:Int)+1),.int .i64 sd] 157 (0,0)):=hh1
 obtain ⟨d0,d1,d2,g1,g2⟩:=UJ hh1'
 have H1:Hid ((∀ k,k≠p→W1.heap[k]?=w.heap[k]?)∧Below p w W1∧W1.heap.size=w.heap.size∧W1.heap[p]?=some (.cells #[.slice a n cap,.int .i64 ((m:Int)+1),.int .i64 sd] 157 (0,0))):=⟨hoth1,hbel1,hsz1,hh1'⟩
 clear hW1 hh1 hh1' hoth1 hbel1 hsz1 c0 c1 c2 f1 f2 hh
 go_quiet (fail)
 by_cases hbig:3000<m+1
 ·have hbig':(3000:Int)<(m:Int)+1:=by omega
  go_wp2
  go_ret
  obtain ⟨ho,hbe,hsz,hhp⟩:=H1.out
  refine ⟨⟨0,by omega,rfl⟩,⟨m+1,sd,?_,by omega,hsd⟩,below_drewN hbe _,hsz,ho⟩
  exact hhp
 have hbig':¬ (3000:Int)<(m:Int)+1:=by omega
 go_wp2
 go_ret
 obtain ⟨ho,hbe,hsz,hhp⟩:=H1.out
 have hhp':(W1.drewN nq).heap[p]?=some (.cells #[.slice a n cap,.int .i64 ((m:Int)+1),.int .i64 sd] 157 (0,0)):=hhp
 have h2:=heap_setCell_same (W1.drewN nq) p 2 _ _ (.int .i64 (((sd:Int)*1103515245+12345) % 2147483648)) hhp'
 refine ⟨⟨((((sd:Int)*1103515245+12345) % 2147483648) / 65536 % 256).toNat,by omega,by rw [Int.toNat_of_nonneg (by omega)];rfl⟩,⟨m+1,(((sd:Int)*1103515245+12345) % 2147483648).toNat,?_,by omega,by omega⟩,?_,?_,?_⟩
 ·rw [h2,Int.toNat_of_nonneg (by omega)];rfl
 ·exact Below.setCell (below_drewN hbe _) (p:=⟨p,2,none⟩) (Nat.le_refl p) _
 ·simp [World.setCell];exact hsz
 intro k hk
 rw [heap_setCell_other _ ⟨p,2,none⟩ k _ hk]
 exact ho k hk


abbrev YA (p:Nat) (w w':World):Prop:=w.grownBy w' (some p)
theorem To.went {p:Nat} {w w':World} (h:To p w w'):YA p w w':=
 ⟨h.1.os,h.1.tape,h.1.output,Nat.le_of_eq h.2.1.symm,fun k _ hk=>h.2.2 k (fun e=>hk (by rw [e]))⟩
theorem YA.trans {p:Nat} {a b c:World} (h:YA p a b) (k:YA p b c):YA p a c:=
 ⟨k.os.trans h.os,k.tape.trans h.tape,k.output.trans h.output,Nat.le_trans h.size k.size,fun i hi hne=>(k.block i (Nat.lt_of_lt_of_le hi h.size) hne).trans (h.block i hi hne)⟩
theorem YA.below {p:Nat} {w w':World} (h:YA p w w') (hp:p≤w.heap.size):Below p w w':=
 (Below.refl _ _).grown h hp (fun k e=>by cases e;exact Nat.le_refl _)
theorem YA.alloc {p:Nat} {w w':World} (h:YA p w w') (o:Obj):YA p w (w'.alloc o):=h.trans (World.grownBy_alloc w' o _)
theorem YA.refl (p:Nat) (w:World):YA p w w:=World.grownBy.refl _ _
theorem YA.grown {p:Nat} {w w' w'':World} {row:Option Nat} (h:YA p w w') (g:w'.grownBy w'' row) (hr:∀ k,row=some k→w.heap.size≤k):YA p w w'':=
 ⟨g.os.trans h.os,g.tape.trans h.tape,g.output.trans h.output,Nat.le_trans h.size g.size,fun i hi hne=>(g.block i (Nat.lt_of_lt_of_le hi h.size) (fun e=>by have:=hr i e.symm;omega)).trans (h.block i hi hne)⟩
theorem Src.grown {p T:Nat} {c:Value} {w w':World} {row:Option Nat} (h:Src w p c T) (g:w.grownBy w' row) (hr:∀ k,row=some k→k≠p):Src w' p c T:=by
 obtain ⟨m,sd,hh,h1,h2⟩:=h
 have hl:p<w.heap.size:=(Array.getElem?_eq_some_iff.1 hh).1
 exact ⟨m,sd,by rw [g.block p hl (fun e=>hr p e.symm rfl)];exact hh,h1,h2⟩
theorem Src.alloc {p T:Nat} {c:Value} {w:World} (h:Src w p c T) (o:Obj):Src (w.alloc o) p c T:=h.grown (World.grownBy_alloc w o none) (fun k e=>by cases e)
theorem Src.lt {p T:Nat} {c:Value} {w:World} (h:Src w p c T):p<w.heap.size:=by
 obtain ⟨m,sd,hh,_⟩:=h
 exact (Array.getElem?_eq_some_iff.1 hh).1
theorem Src.mono {p T T':Nat} {c:Value} {w:World} (h:Src w p c T) (ht:T≤T'):Src w p c T':=by
 obtain ⟨m,sd,hh,h1,h2⟩:=h
 exact ⟨m,sd,hh,Nat.le_trans h1 ht,h2⟩
theorem UK.below {p n cap:Nat} {a:Option Addr} {w w':World} (h:UK w p a n cap) (hb:Below p w w'):UK w' p a n cap:=by
 obtain ⟨zs,⟨h1,h2,h3,h4⟩,h5,h6,h7⟩:=h
 refine ⟨zs,⟨h1,h2,h3,?_⟩,h5,h6,h7⟩
 rcases h4 with h4 | ⟨b,off,ha,hlt,hc⟩
 ·exact .inl h4
 rcases Nat.eq_zero_or_pos n with h0 | h0
 ·exact .inl h0
 have hbB:=h7 _ ha (by omega)
 exact .inr ⟨b,off,ha,by have:=hb.size;omega,fun t ht=>by rw [hb.cell (p:=⟨b,off+t,none⟩) hbB];exact hc t ht⟩
theorem UK.went {p n cap:Nat} {a:Option Addr} {w w':World} (h:UK w p a n cap) (hw:YA p w w') (hp:p≤w.heap.size):UK w' p a n cap:=h.below (hw.below hp)

theorem Yr (p T:Nat) (a:Option Addr) (n cap:Nat) (k:Int) (w:World) (hS:Src w p (.slice a n cap) T) (hC:UK w p a n cap) (hT:T≤900000) (hk:k≤1000000) :
  Calls Tryz.prog 114 #[.pointer (some ⟨p,0,none⟩),.int .i64 k] w fun e w'=>(∃ v:Nat,((v:Int)<k∨v=0)∧e=.returned (.int .i64 v))∧Src w' p (.slice a n cap) (T+3)∧YA p w w':=by
 have hp:=Nat.le_of_lt hS.lt
 by_cases h1:k≤1
 ·go_enter Tryz.func114,Tryz.ntmps114
  go_wp2
  go_ret
  exact ⟨⟨0,.inr rfl,rfl⟩,hS.mono (by omega),YA.refl _ _⟩
 by_cases h2:k≤256
 ·go_enter Tryz.func114,Tryz.ntmps114
  go_wp2_with fail
  refine (Tt p T a n cap _ hS hC (by omega)).mono ?_
  rintro e w1 ⟨⟨v,hv,rfl⟩,hS1,hst⟩
  have hW:=hst.went
  have hS3:Src w1 p (.slice a n cap) (T+3):=hS1.mono (by omega)
  clear hst hS1 hS hC
  go_wp2
  go_ret
  exact ⟨⟨((v:Int) % k).toNat,.inl (by have:=Int.emod_lt_of_pos (v:Int) (show 0<k by omega);have:=Int.emod_nonneg (v:Int) (show k≠0 by omega);omega),by rw [Int.toNat_of_nonneg (Int.emod_nonneg _ (by omega))];rfl⟩,hS3,hW⟩
 go_enter Tryz.func114,Tryz.ntmps114
 go_wp2_with fail
 refine (Tt p T a n cap _ hS hC (by omega)).mono ?_
 rintro e w1 ⟨⟨v1,hv1,rfl⟩,hS1,hst1⟩
 have hC1:=hC.went hst1.went hp
 have hp1:=Nat.le_of_lt hS1.lt
 go_wp2_with fail
 refine (Tt p (T+1) a n cap _ hS1 hC1 (by omega)).mono ?_
 rintro e w2 ⟨⟨v2,hv2,rfl⟩,hS2,hst2⟩
 have hC2:=hC1.went hst2.went hp1
 go_wp2_with fail
 refine (Tt p (T+1+1) a n cap _ hS2 hC2 (by omega)).mono ?_
 rintro e w3 ⟨⟨v3,hv3,rfl⟩,hS3,hst3⟩
 have hW:=(hst1.went.trans hst2.went).trans hst3.went
 have hS3':Src w3 p (.slice a n cap) (T+3):=hS3.mono (by omega)
 clear hst1 hst2 hst3 hS1 hS2 hS3 hS hC hC1 hC2
 go_wp2
 go_ret
 exact ⟨⟨(((v1:Int)*65536+(v2:Int)*256+(v3:Int)) % k).toNat,.inl (by have:=Int.emod_lt_of_pos ((v1:Int)*65536+(v2:Int)*256+(v3:Int)) (show 0<k by omega);have:=Int.emod_nonneg ((v1:Int)*65536+(v2:Int)*256+(v3:Int)) (show k≠0 by omega);omega),by rw [Int.toNat_of_nonneg (Int.emod_nonneg _ (by omega))];rfl⟩,hS3',hW⟩

theorem Qy (a:Option Addr) (n cap:Nat) (w:World) (hn:n≤1048576) :
  Calls Tryz.prog 51 #[.slice a n cap] w fun e w'=>e=.returned (.pointer (some ⟨w.heap.size,0,none⟩))∧Src w' w.heap.size (.slice a n cap) 0∧Below w.heap.size w w':=by
 go_enter Tryz.func51,Tryz.ntmps51
 go_wp2
 go_ret
 refine ⟨rfl,⟨0,((n:Int) % 1000).toNat,?_,by omega,by omega⟩,(Below.refl _ _).alloc (Nat.le_refl _) _⟩
 rw [Int.toNat_of_nonneg (by omega)]
 exact heap_alloc_new w _
theorem GT {a:Option Addr} {n cap:Nat} {zs:List Int} {w:World} (h:IsRow .u8 w a n cap zs) (hn:n≤1048576):UK w w.heap.size a n cap:=by
 refine ⟨zs.take n,YV.of_isRow h,?_,hn,?_⟩
 ·intro z hz
  have hz':=List.mem_of_mem_take hz
  rcases h with ⟨_,_,_,rfl⟩ | ⟨x,_,_,_,_,_,hw⟩
  ·simp at hz'
  have:=hw z hz'
  simp [Lit.wf,IntKind.min,IntKind.max,IntKind.signed,IntKind.bits] at this
  omega
 intro x hx hn0
 obtain ⟨_,_,_,h4⟩:=YV.of_isRow h
 rcases h4 with h4 | ⟨b,off,ha,hlt,_⟩
 ·exact absurd h4 hn0
 rw [ha] at hx
 cases hx
 exact hlt

open Go.RowKit Go.ChangeShapes Go.WideShapes

theorem Zb {a b c:World} (h:Below a.heap.size a b) (k:Below b.heap.size b c):Below a.heap.size a c:=h.trans (k.mono h.size)

abbrev I3:=Int × Int × Int

def I3.fits (x:I3):Prop:=(Lit.int .i64 x.1).wf=true∧(Lit.int .i64 x.2.1).wf=true∧(Lit.int .i64 x.2.2).wf=true

def I3.val (x:I3):Value:=.agg #[.int .i64 x.1,.int .i64 x.2.1,.int .i64 x.2.2]

def ZL (w:World) (a:Option Addr) (len cap:Nat) (xs:List I3):Prop:=
 xs.length=len∧len≤cap∧cap≤maxLen∧(∀ x ∈ xs,I3.fits x) ∧
 (len=0∨∃ b off,a=some ⟨b,off,none⟩∧b<w.heap.size∧∀ t,t<len →
  w.cell? ⟨b,off+t*3,none⟩=some (.int .i64 (xs.getD t (0,0,0)).1) ∧
  w.cell? ⟨b,off+t*3+1,none⟩=some (.int .i64 (xs.getD t (0,0,0)).2.1) ∧
  w.cell? ⟨b,off+t*3+2,none⟩=some (.int .i64 (xs.getD t (0,0,0)).2.2))

def XP (w:World) (a:Option Addr) (len cap:Nat) (P:List (List I3)):Prop:=
 P.length=len∧len≤cap∧cap≤maxLen ∧
 (len=0∨∃ b off,a=some ⟨b,off,none⟩∧b<w.heap.size∧∀ t,t<len →
  ∃ a' len' cap',w.cell? ⟨b,off+t,none⟩=some (.slice a' len' cap')∧ZL w a' len' cap' (P.getD t []))

theorem ZL.below {w w':World} {a:Option Addr} {len cap:Nat} {xs:List I3} (h:ZL w a len cap xs) (hb:Below w.heap.size w w'):ZL w' a len cap xs:=by
 obtain ⟨h1,h2,h3,hf,h4⟩:=h
 refine ⟨h1,h2,h3,hf,?_⟩
 rcases h4 with h4 | ⟨b,off,ha,hlt,hc⟩
 ·exact .inl h4
 refine .inr ⟨b,off,ha,by have:=hb.size;omega,fun t ht=>?_⟩
 obtain ⟨c0,c1,c2⟩:=hc t ht
 exact ⟨by rw [hb.cell (p:=⟨b,_,none⟩) hlt];exact c0,by rw [hb.cell (p:=⟨b,_,none⟩) hlt];exact c1,by rw [hb.cell (p:=⟨b,_,none⟩) hlt];exact c2⟩

theorem XP.below {w w':World} {a:Option Addr} {len cap:Nat} {P:List (List I3)} (h:XP w a len cap P) (hb:Below w.heap.size w w'):XP w' a len cap P:=by
 obtain ⟨h1,h2,h3,h4⟩:=h
 refine ⟨h1,h2,h3,?_⟩
 rcases h4 with h4 | ⟨b,off,ha,hlt,hc⟩
 ·exact .inl h4
 refine .inr ⟨b,off,ha,by have:=hb.size;omega,fun t ht=>?_⟩
 obtain ⟨a',l',c',hcell,hi⟩:=hc t ht
 exact ⟨a',l',c',by rw [hb.cell (p:=⟨b,_,none⟩) hlt];exact hcell,hi.below hb⟩

section
variable {H : Type} {enc : TypeId × Value → H} {P : Program} {w : World} {base : Nat} {spare : Nat → Bool} {held : Bool}

end


def I3.cells (x:I3):List Value:=[.int .i64 x.1,.int .i64 x.2.1,.int .i64 x.2.2]

def Zo (xs:List I3):List Value:=xs.flatMap I3.cells

theorem Zt (xs:List I3):(Zo xs).length=xs.length*3:=by
 induction xs with
 | nil=>rfl
 | cons x xs ih=>simp [Zo,I3.cells] at *;omega

theorem V6 {xs:List I3} {k:Nat} (hk:k<xs.length):Zo (xs.take (k+1))=Zo (xs.take k)++(xs.getD k (0,0,0)).cells:=by
 unfold Zo
 rw [List.take_succ_eq_append_getElem hk,List.flatMap_append]
 simp [List.getD,hk,I3.cells]

theorem ZL.of_owns {w:World} {base e n cap g:Nat} {cs:List Value} {xs:List I3} (h:w.ownsRow base e 3 (.slice (some ⟨g,0,none⟩) n cap) n cs) (hl:xs.length=n) (hf:∀ x ∈ xs,I3.fits x) (hcs:cs=Zo xs) :
  ZL w (some ⟨g,0,none⟩) n cap xs:=by
 have hcell:∀ t,t<n→∀ j,j<3→w.cell? ⟨g,t*3+j,none⟩=((xs.getD t (0,0,0)).cells)[j]?:=by
  intro t ht j hj
  rw [h.cellAt (t*3+j) (by omega),hcs]
  have hsplit:Zo xs=Zo (xs.take t)++((xs.getD t (0,0,0)).cells++Zo (xs.drop (t+1))):=by
   rw [← List.append_assoc,← V6 (by omega)]
   unfold Zo
   rw [← List.flatMap_append,List.take_append_drop]
  have hlt:(Zo (xs.take t)).length=t*3:=by rw [Zt,List.length_take];rw [Nat.min_eq_left (by omega)]
  rw [hsplit,List.getElem?_append_right (by omega),hlt,Nat.add_sub_cancel_left,List.getElem?_append_left (by simp [I3.cells];omega)]
 have hg:=(h.lt g rfl).2
 rcases h.2 with ⟨h0,_⟩ | ⟨g',cap',cur,hv,_,_,hn,hcap,_,_⟩
 ·cases h0
 cases hv
 exact ⟨hl,hn,hcap,hf,.inr ⟨g,0,rfl,hg,fun t ht=>⟨by simpa [I3.cells] using hcell t ht 0 (by omega),by simpa [I3.cells] using hcell t ht 1 (by omega),by simpa [I3.cells] using hcell t ht 2 (by omega)⟩⟩⟩

theorem RN:(Tryz.prog.info? 159).map (fun i=>(i.zero,i.size,i.bytes))=some (some (.agg #[.int .i64 0,.int .i64 0,.int .i64 0]),3,24):=by kernel_rfl

theorem Zf {B e k n:Nat} {v:Value} {xs:List Value} {w w':World} (h:w.ownsRow B e k v n xs) (hb:Below w.heap.size w w'):w'.ownsRow B e k v n xs:=by
 refine ⟨h.1,?_⟩
 rcases h.2 with h0 | ⟨g,cap,cur,hv,hB,hg,rest⟩
 ·exact .inl h0
 have hlt:g<w.heap.size:=by
  rcases Nat.lt_or_ge g w.heap.size with h' | h'
  ·exact h'
  simp [Array.getElem?_eq_none h'] at hg
 exact .inr ⟨g,cap,cur,hv,hB,by rw [hb.block g hlt];exact hg,rest⟩


theorem NA:(Tryz.prog.info? 82).map (fun i=>(i.zero,i.size,i.bytes))=some (some (.slice none 0 0),1,24):=by kernel_rfl


theorem Yh {w:World} {B B' e e' s s' n n':Nat} {v v':Value} {xs xs':List Value} (h:w.ownsRow B e s v n xs) (h':w.ownsRow B' e' s' v' n' xs') (he:e≠e'):v.ownBlock=none∨v.ownBlock≠v'.ownBlock:=by
 rcases h.2 with ⟨rfl,_⟩ | ⟨g,cap,cur,rfl,_,hg,_⟩
 ·exact .inl rfl
 rcases h'.2 with ⟨rfl,_⟩ | ⟨g',cap',cur',rfl,_,hg',_⟩
 ·exact .inr (by simp [Value.ownBlock])
 refine .inr ?_
 simp only [Value.ownBlock,ne_eq,Option.some.injEq]
 rintro rfl
 rw [hg] at hg'
 simp at hg'
 exact he hg'.2

theorem Zm (w:World) (g j:Nat) (u:Value):w.grownBy (w.setCell ⟨g,j,none⟩ u) (some g):=
 ⟨rfl,rfl,rfl,by simp [World.setCell],fun k _ hk=>Below.heap_setCell _ _ _ _ (fun e=>hk (by rw [e]))⟩
theorem Zz {a b c:World} {row:Option Nat} (h:a.grownBy b row) (k:b.grownBy c row):a.grownBy c row:=
 ⟨k.os.trans h.os,k.tape.trans h.tape,k.output.trans h.output,Nat.le_trans h.size k.size,fun i hi hne=>(k.block i (by have:=h.size;omega) hne).trans (h.block i hi hne)⟩

def XQ (w:World) (B:Nat) (vs:List Value) (rows:List (List I3)):Prop:=
 vs.length=rows.length∧(∀ t,t<rows.length→w.ownsRow B 159 3 (vs.getD t undef) (rows.getD t []).length (Zo (rows.getD t []))) ∧
 ∀ t t',t<rows.length→t'<rows.length→t≠t'→(vs.getD t undef).ownBlock=none∨(vs.getD t undef).ownBlock≠(vs.getD t' undef).ownBlock

def YX (w:World) (B:Nat) (v:Value) (rows:List (List I3)):Prop:=∃ vs,w.ownsRow B 82 1 v rows.length vs∧XQ w B vs rows

theorem XQ.below {w w':World} {B:Nat} {vs:List Value} {rows:List (List I3)} (h:XQ w B vs rows) (hb:Below w.heap.size w w'):XQ w' B vs rows:=⟨h.1,fun t ht=>Zf (h.2.1 t ht) hb,h.2.2⟩
theorem YX.slice {w:World} {B:Nat} {v:Value} {rows:List (List I3)} (h:YX w B v rows):∃ a cap,v=.slice a rows.length cap:=by
 obtain ⟨vs,h1,_⟩:=h
 rcases h1.2 with ⟨hv,h0⟩ | ⟨g,cap,cur,hv,_⟩
 ·rw [h0];exact ⟨none,0,hv⟩
 exact ⟨some ⟨g,0,none⟩,cap,hv⟩

theorem ZL.of_own {w:World} {B:Nat} {v:Value} {xs:List I3} (h:w.ownsRow B 159 3 v xs.length (Zo xs)) (hf:∀ x ∈ xs,I3.fits x):∃ a cap,v=.slice a xs.length cap∧ZL w a xs.length cap xs:=by
 rcases h.2 with ⟨hv,h0⟩ | ⟨g,cap,cur,hv,_⟩
 ·obtain rfl:xs=[]:=List.eq_nil_of_length_eq_zero h0
  exact ⟨none,0,hv,rfl,Nat.le_refl _,by unfold maxLen;omega,by simp,.inl rfl⟩
 subst hv
 exact ⟨_,_,rfl,ZL.of_owns h rfl hf rfl⟩

theorem YX.codes {w:World} {B:Nat} {a:Option Addr} {len cap:Nat} {rows:List (List I3)} (h:YX w B (.slice a len cap) rows) (hf:∀ r ∈ rows,∀ x ∈ r,I3.fits x):XP w a len cap rows:=by
 obtain ⟨vs,h1,h2⟩:=h
 have hcellAt:=h1.2
 rcases h1.2 with ⟨hv,h0⟩ | ⟨g,cap',cur,hv,_,hh,hn,hcm,_⟩
 ·cases hv
  obtain rfl:rows=[]:=List.eq_nil_of_length_eq_zero h0
  exact ⟨rfl,Nat.le_refl _,by unfold maxLen;omega,.inl rfl⟩
 cases hv
 have hl:=h1.1
 refine ⟨rfl,hn,hcm,.inr ⟨g,0,rfl,(h1.lt g rfl).2,fun t ht=>?_⟩⟩
 have hc:=h1.cellAt t (by omega)
 have hvt:vs[t]?=some (vs.getD t undef):=by simp [List.getD,show t<vs.length by omega]
 rw [hvt] at hc
 obtain ⟨a',cap',hva,hI⟩:=ZL.of_own (h2.2.1 t ht) (hf _ (by simp [List.getD,ht]))
 rw [hva] at hc
 exact ⟨a',_,cap',by rw [Nat.zero_add];exact hc,hI⟩


def inB (n a b:Int):Bool:=decide (a≤n∧n≤b)

theorem ZE {n a b:Int}:inB n a b=true↔a≤n∧n≤b:=by simp [inB]
theorem YG {n a b:Int}:inB n a b=false↔¬ (a≤n∧n≤b):=by simp only [inB,decide_eq_false_iff_not]

theorem Xi (v:Value) (w:World):(Go.method 389 241 v "loop.example/g00632/impl.right").run Tryz.prog w=.ok (239,v) w:=by kernel_rfl

theorem Y7 (n:Int) (w:World):Calls Tryz.prog 239 #[.int .i64 n] w fun e w'=>e=.returned (.bool (inB n 0 1))∧w=w':=by
 cases h:inB n 0 1
 ·rw [YG] at h
  by_cases h1:0≤n
  ·have h2:decide (n<2)=false:=by simp;omega
   clear h
   go_enter Tryz.func239,Tryz.ntmps239
   go_wp2
   go_ret
   exact ⟨rfl,rfl⟩
  clear h
  go_enter Tryz.func239,Tryz.ntmps239
  go_wp2
  go_ret
  exact ⟨rfl,rfl⟩
 rw [ZE] at h
 obtain ⟨h1,h3⟩:=h
 have h2:decide (n<2)=true:=by simp;omega
 clear h3
 go_enter Tryz.func239,Tryz.ntmps239
 go_wp2
 go_ret
 exact ⟨by simp_all,rfl⟩

theorem SO (v:Value) (w:World):(Go.method 389 242 v "loop.example/g00632/impl.right").run Tryz.prog w=.ok (240,v) w:=by kernel_rfl

theorem TW (n:Int) (w:World):Calls Tryz.prog 240 #[.int .i64 n] w fun e w'=>e=.returned (.bool (inB n 0 3))∧w=w':=by
 cases h:inB n 0 3
 ·rw [YG] at h
  by_cases h1:0≤n
  ·have h2:decide (n<4)=false:=by simp;omega
   clear h
   go_enter Tryz.func240,Tryz.ntmps240
   go_wp2
   go_ret
   exact ⟨rfl,rfl⟩
  clear h
  go_enter Tryz.func240,Tryz.ntmps240
  go_wp2
  go_ret
  exact ⟨rfl,rfl⟩
 rw [ZE] at h
 obtain ⟨h1,h3⟩:=h
 have h2:decide (n<4)=true:=by simp;omega
 clear h3
 go_enter Tryz.func240,Tryz.ntmps240
 go_wp2
 go_ret
 exact ⟨by simp_all,rfl⟩

theorem QZ (v:Value) (w:World):(Go.method 389 244 v "loop.example/g00632/impl.right").run Tryz.prog w=.ok (242,v) w:=by kernel_rfl

theorem Qb (n:Int) (w:World):Calls Tryz.prog 242 #[.int .i64 n] w fun e w'=>e=.returned (.bool (inB n 0 1))∧w=w':=by
 cases h:inB n 0 1
 ·rw [YG] at h
  by_cases h1:0≤n
  ·have h2:decide (n<2)=false:=by simp;omega
   clear h
   go_enter Tryz.func242,Tryz.ntmps242
   go_wp2
   go_ret
   exact ⟨rfl,rfl⟩
  clear h
  go_enter Tryz.func242,Tryz.ntmps242
  go_wp2
  go_ret
  exact ⟨rfl,rfl⟩
 rw [ZE] at h
 obtain ⟨h1,h3⟩:=h
 have h2:decide (n<2)=true:=by simp;omega
 clear h3
 go_enter Tryz.func242,Tryz.ntmps242
 go_wp2
 go_ret
 exact ⟨by simp_all,rfl⟩

theorem Tc (v:Value) (w:World):(Go.method 389 243 v "loop.example/g00632/impl.right").run Tryz.prog w=.ok (241,v) w:=by kernel_rfl

theorem Ul (n:Int) (w:World):Calls Tryz.prog 241 #[.int .i64 n] w fun e w'=>e=.returned (.bool (inB n 0 9))∧w=w':=by
 cases h:inB n 0 9
 ·rw [YG] at h
  by_cases h1:0≤n
  ·have h2:decide (n≤9)=false:=by simp;omega
   clear h
   go_enter Tryz.func241,Tryz.ntmps241
   go_wp2
   go_ret
   exact ⟨rfl,rfl⟩
  clear h
  go_enter Tryz.func241,Tryz.ntmps241
  go_wp2
  go_ret
  exact ⟨rfl,rfl⟩
 rw [ZE] at h
 obtain ⟨h1,h3⟩:=h
 have h2:decide (n≤9)=true:=by simp;omega
 clear h3
 go_enter Tryz.func241,Tryz.ntmps241
 go_wp2
 go_ret
 exact ⟨by simp_all,rfl⟩

theorem NU (v:Value) (w:World):(Go.method 389 228 v "loop.example/g00632/impl.right").run Tryz.prog w=.ok (238,v) w:=by kernel_rfl

theorem PZ (n:Int) (w:World):Calls Tryz.prog 238 #[.int .i64 n] w fun e w'=>e=.returned (.bool (inB n 1 6))∧w=w':=by
 cases h:inB n 1 6
 ·rw [YG] at h
  by_cases h1:1≤n
  ·have h2:decide (n≤6)=false:=by simp;omega
   clear h
   go_enter Tryz.func238,Tryz.ntmps238
   go_wp2
   go_ret
   exact ⟨rfl,rfl⟩
  clear h
  go_enter Tryz.func238,Tryz.ntmps238
  go_wp2
  go_ret
  exact ⟨rfl,rfl⟩
 rw [ZE] at h
 obtain ⟨h1,h3⟩:=h
 have h2:decide (n≤6)=true:=by simp;omega
 clear h3
 go_enter Tryz.func238,Tryz.ntmps238
 go_wp2
 go_ret
 exact ⟨by simp_all,rfl⟩

theorem Lt (v:Value) (w:World):(Go.method 389 245 v "loop.example/g00632/impl.right").run Tryz.prog w=.ok (243,v) w:=by kernel_rfl

theorem Mb (n:Int) (w:World):Calls Tryz.prog 243 #[.int .i64 n] w fun e w'=>e=.returned (.bool (inB n 0 0))∧w=w':=by
 go_enter Tryz.func243,Tryz.ntmps243
 go_wp2
 go_ret
 refine ⟨?_,rfl⟩
 cases h:inB n 0 0
 ·rw [YG] at h
  have h2:(n == 0)=false:=by simp;omega
  simp [h2]
 rw [ZE] at h
 have h2:(n == 0)=true:=by simp;omega
 simp [h2]

end Go.Proofs.YtifoggpohlegmaaGreatDoor
