/-
  Joined: Tk, Ints0.
-/
import Derived.Test.YtdopgkbegjfhjaaProg
import Derived.Deep.RegionHeld3
import Derived.KernelRfl
import Derived.Tactics
import Derived.WalkKit
import Derived.WalkSpells
import Derived.WalkLawsBesides
import Derived.RegionTactic
import Derived.BigQuiet
import Derived.Deep.QuietTactic

namespace Go.Proofs.Ytdopgkbegjfhjaa
set_option maxRecDepth 100000
set_option maxHeartbeats 16000000
set_option linter.unusedVariables false

theorem tkm {P : Program} {ops : Array Oper} {Q : Exit → Act → World → Prop} {md : Region.Mode} {S : World → Prop} {fuel : Nat} {listed : Array Bool} {a : Act} {w : World} {b : Act} {o1 : Op} {o2 : TypeId} {o3 : String} {o4 : Array Edge} {o5 : Option (Nat × Bool)}
    (i d : Nat) (v : Value) (h : wpAnyH P md ops Q S fuel (listed.setIfInBounds i true) b w)
    (hi : ops[i]? = some { dst := some d, op := o1, type := o2, pos := o3, after := o4, guard := o5 } := by exact rfl)
    (hs : Region.noSelect ops = true := by kernel_rfl) (hf : Region.free md ops listed i = true := by kernel_rfl) (hr : (Region.ready md ops listed).contains i = true := by kernel_rfl)
    (hQ : ∀ c a w, Q (.panic c) (a.put (some d) v) w → Q (.panic c) a w := by exact (fun _ _ _ h => h))
    (hw : Region.wanted { dst := some d, op := o1, type := o2, pos := o3, after := o4, guard := o5 } (yielded ops a.tmps) = true := by rfl)
    (hS : S w := by assumption)
    (hb : a.put (some d) v = b := by (simp only [Act.put, List.setIfInBounds_toArray, List.set_cons_zero, List.set_cons_succ]; exact rfl))
    (hy : ∀ w', S w' → (execOp a.eval { dst := some d, op := o1, type := o2, pos := o3, after := o4, guard := o5 }).run P w' = .ok (.value v) w' := by (intro w' hSw; (try dsimp only at hSw); go_simp; try rfl)) : wpAnyH P md ops Q S (fuel + 1) listed a w :=
  wpAnyH_take hi hs hf hr hQ (Or.inl ⟨hw, hy⟩) hS (hb ▸ h)
theorem tkv {P : Program} {ops : Array Oper} {Q : Exit → Act → World → Prop} {md : Region.Mode} {S : World → Prop} {fuel : Nat} {listed : Array Bool} {a : Act} {w : World} {b : Act} {o1 : Op} {o2 : TypeId} {o3 : String} {o4 : Array Edge} {o5 : Option (Nat × Bool)}
    (i d : Nat) (v : Value) (h : wpAnyH P md ops Q S fuel (listed.setIfInBounds i true) b w)
    (hi : ops[i]? = some { dst := some d, op := o1, type := o2, pos := o3, after := o4, guard := o5 } := by exact rfl)
    (hs : Region.noSelect ops = true := by kernel_rfl) (hf : Region.free md ops listed i = true := by kernel_rfl) (hr : (Region.ready md ops listed).contains i = true := by kernel_rfl)
    (hQ : ∀ c a w, Q (.panic c) (a.put (some d) v) w → Q (.panic c) a w := by exact (fun _ _ _ h => h))
    (hw : Region.wanted { dst := some d, op := o1, type := o2, pos := o3, after := o4, guard := o5 } (yielded ops a.tmps) = true := by rfl)
    (hS : S w := by assumption)
    (hb : a.put (some d) v = b := by (simp only [Act.put, List.setIfInBounds_toArray, List.set_cons_zero, List.set_cons_succ]; exact rfl))
    (hy : ∀ w', S w' → (execOp a.eval { dst := some d, op := o1, type := o2, pos := o3, after := o4, guard := o5 }).run P w' = .ok (.value v) w' := by (intro w' hSw; (try dsimp only at hSw); go_simp; first | done | rfl | omega | (intro h9; omega) | (rw [IntKind.wrap_i64]; omega))) : wpAnyH P md ops Q S (fuel + 1) listed a w :=
  wpAnyH_take hi hs hf hr hQ (Or.inl ⟨hw, hy⟩) hS (hb ▸ h)
theorem tku {P : Program} {ops : Array Oper} {Q : Exit → Act → World → Prop} {md : Region.Mode} {S : World → Prop} {fuel : Nat} {listed : Array Bool} {a : Act} {w : World} {b : Act} {o1 : Op} {o2 : TypeId} {o3 : String} {o4 : Array Edge} {o5 : Option (Nat × Bool)}
    (i d : Nat) (h : wpAnyH P md ops Q S fuel (listed.setIfInBounds i true) b w)
    (hi : ops[i]? = some { dst := some d, op := o1, type := o2, pos := o3, after := o4, guard := o5 } := by exact rfl)
    (hs : Region.noSelect ops = true := by kernel_rfl) (hf : Region.free md ops listed i = true := by kernel_rfl) (hr : (Region.ready md ops listed).contains i = true := by kernel_rfl)
    (hQ : ∀ c a w, Q (.panic c) (a.put (some d) undef) w → Q (.panic c) a w := by exact (fun _ _ _ h => h))
    (hw : Region.wanted { dst := some d, op := o1, type := o2, pos := o3, after := o4, guard := o5 } (yielded ops a.tmps) = false := by rfl)
    (hS : S w := by assumption)
    (hb : a.put (some d) undef = b := by (simp only [Act.put, List.setIfInBounds_toArray, List.set_cons_zero, List.set_cons_succ]; exact rfl)) : wpAnyH P md ops Q S (fuel + 1) listed a w :=
  wpAnyH_take hi hs hf hr hQ (Or.inr ⟨hw, rfl⟩) hS (hb ▸ h)
theorem tkr {P : Program} {ops : Array Oper} {Q : Exit → Act → World → Prop} {md : Region.Mode} {S : World → Prop} {fuel : Nat} {listed : Array Bool} {a : Act} {w : World} {o1 : Op} {o2 : TypeId} {o3 : String} {o4 : Array Edge} {o5 : Option (Nat × Bool)}
    (i d : Nat) (h : ∀ K' : Act → World → Prop, Shut (∀ a w, S w → (S w → wpAnyH P md ops Q S fuel (listed.setIfInBounds i true) a w) → K' a w) → if Region.wanted { dst := some d, op := o1, type := o2, pos := o3, after := o4, guard := o5 } (yielded ops a.tmps) = true then Oper.wp P { dst := some d, op := o1, type := o2, pos := o3, after := o4, guard := o5 } a w K' Q else K' (a.put (some d) undef) w)
    (hi : ops[i]? = some { dst := some d, op := o1, type := o2, pos := o3, after := o4, guard := o5 } := by exact rfl)
    (hr : Region.ready md ops listed = [i] := by kernel_rfl) : wpAnyH P md ops Q S (fuel + 1) listed a w :=
  wpAnyH_ready hr (by simp) (AllReadyH.cons hi h AllReadyH.nil)
theorem tka {α : Type} {l : List α} {i : Nat} {a : α} : l.toArray.setIfInBounds i a = (l.set i a).toArray := by simp
theorem tkb {α : Type} {x a : α} {l : List α} : (x :: l).set 0 a = a :: l := rfl
theorem tkc {α : Type} {x a : α} {l : List α} {i : Nat} : (x :: l).set (i + 1) a = x :: l.set i a := rfl

open Go.RowKit

def Ints (k:IntKind) (w:World) (a:Option Addr) (len cap:Nat) (zs:List Int):Prop:=
 zs.length=len∧len≤cap∧cap≤maxLen ∧
 (len=0∨∃ b off,a=some ⟨b,off,none⟩∧b<w.heap.size∧∀ t,t<len→w.cell? ⟨b,off+t,none⟩=some (.int k (zs.getD t 0)))

theorem lt_of_cell {w:World} {b o:Nat} {v:Value} (h:w.cell? ⟨b,o,none⟩=some v):b<w.heap.size:=by
 rcases Nat.lt_or_ge b w.heap.size with h' | h'
 ·exact h'
 ·simp [World.cell?,Array.getElem?_eq_none h'] at h

theorem Ints.below {k:IntKind} {w w':World} {a:Option Addr} {len cap:Nat} {zs:List Int} (h:Ints k w a len cap zs) (hb:Below w.heap.size w w'):Ints k w' a len cap zs:=by
 obtain ⟨h1,h2,h3,h4⟩:=h
 refine ⟨h1,h2,h3,?_⟩
 rcases h4 with h4 | ⟨b,off,ha,hlt,hc⟩
 ·exact .inl h4
 ·exact .inr ⟨b,off,ha,by have:=hb.size;omega,fun t ht=>by rw [hb.cell (p:=⟨b,off+t,none⟩) hlt];exact hc t ht⟩

theorem Ints.of_owns {k:IntKind} {w:World} {base e n cap g:Nat} {zs:List Int} (h:w.ownsRow base e 1 (.slice (some ⟨g,0,none⟩) n cap) n (zs.map (Value.int k))):Ints k w (some ⟨g,0,none⟩) n cap zs:=by
 have hl:zs.length=n:=by simpa using h.1
 have hc:∀ t,t<n→w.cell? ⟨g,0+t,none⟩=some (.int k (zs.getD t 0)):=by
  intro t ht
  have:=h.cellAt t (by omega)
  rw [Nat.zero_add,this]
  simp [List.getElem?_eq_getElem (show t<zs.length by omega)]
 have hg:=(h.lt g rfl).2
 rcases h.2 with ⟨h0,_⟩ | ⟨g',cap',cur,hv,_,_,hn,hcap,_,_⟩
 ·cases h0
 ·cases hv
  exact ⟨hl,hn,hcap,.inr ⟨g,0,rfl,hg,hc⟩⟩

theorem info_int:(Try.prog.info? 3).map (fun i=>(i.zero,i.size,i.bytes))=some (some (.int .i64 0),1,8):=by kernel_rfl

end Go.Proofs.Ytdopgkbegjfhjaa
