/-
  Joined: Ints0.
-/
import Derived.Test.YtojcgajjnmjjpaaDoorProg
import Derived.Deep.RegionHeld3
import Derived.KernelRfl
import Derived.Tactics
import Derived.WalkKit
import Derived.WalkSpells
import Derived.WalkLawsBesides
import Derived.RegionTactic
import Derived.BigQuiet
import Derived.Deep.QuietTactic

namespace Go.Proofs.YtojcgajjnmjjpaaDoor
set_option maxRecDepth 100000
open Go.RowKit

def Ints (k:IntKind) (w:World) (a:Option Addr) (len cap:Nat) (zs:List Int):Prop:=
 zs.length=len∧len≤cap∧cap≤maxLen ∧
 (len=0∨∃ b off,a=some ⟨b,off,none⟩∧b<w.heap.size∧∀ t,t<len→w.cell? ⟨b,off+t,none⟩=some (.int k (zs.getD t 0)))

theorem lt_of_cell {w:World} {b o:Nat} {v:Value} (h:w.cell? ⟨b,o,none⟩=some v):b<w.heap.size:=by
 rcases Nat.lt_or_ge b w.heap.size with h' | h'
 ·exact h'
 ·simp [World.cell?,Array.getElem?_eq_none h'] at h

theorem Ints.below {k:IntKind} {w w':World} {a:Option Addr} {len cap:Nat} {zs:List Int} (h:Ints k w a len cap zs) (hb:Below w.heap.size w w'):Ints k w' a len cap zs:=by
 obtain ⟨h1,h2,h3,h4⟩:=h
 refine ⟨h1,h2,h3,?_⟩
 rcases h4 with h4 | ⟨b,off,ha,hlt,hc⟩
 ·exact .inl h4
 ·exact .inr ⟨b,off,ha,by have:=hb.size;omega,fun t ht=>by rw [hb.cell (p:=⟨b,off+t,none⟩) hlt];exact hc t ht⟩

theorem Ints.of_owns {k:IntKind} {w:World} {base e n cap g:Nat} {zs:List Int} (h:w.ownsRow base e 1 (.slice (some ⟨g,0,none⟩) n cap) n (zs.map (Value.int k))):Ints k w (some ⟨g,0,none⟩) n cap zs:=by
 have hl:zs.length=n:=by simpa using h.1
 have hc:∀ t,t<n→w.cell? ⟨g,0+t,none⟩=some (.int k (zs.getD t 0)):=by
  intro t ht
  have:=h.cellAt t (by omega)
  rw [Nat.zero_add,this]
  simp [List.getElem?_eq_getElem (show t<zs.length by omega)]
 have hg:=(h.lt g rfl).2
 rcases h.2 with ⟨h0,_⟩ | ⟨g',cap',cur,hv,_,_,hn,hcap,_,_⟩
 ·cases h0
 ·cases hv
  exact ⟨hl,hn,hcap,.inr ⟨g,0,rfl,hg,hc⟩⟩

theorem info_int:(Tryd.prog.info? 3).map (fun i=>(i.zero,i.size,i.bytes))=some (some (.int .i64 0),1,8):=by kernel_rfl

theorem made_ints (n:Nat):(madeCells #[Value.int .i64 0] n).toList=(List.replicate n (0:Int)).map (Value.int .i64):=by
 rw [toList_madeCells_one,List.map_replicate]

end Go.Proofs.YtojcgajjnmjjpaaDoor
