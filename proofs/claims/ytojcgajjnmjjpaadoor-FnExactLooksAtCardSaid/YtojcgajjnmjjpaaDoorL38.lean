/-
  Joined: SpecO.
-/
import Derived.Maps.AppendAt
import Derived.Test.YtojcgajjnmjjpaaDoorL16
import Derived.Test.YtojcgajjnmjjpaaDoorL28

namespace Go.Proofs.YtojcgajjnmjjpaaDoor
set_option maxRecDepth 100000
open Go.RowKit
set_option linter.unusedVariables false
set_option linter.unusedSimpArgs false

def Chain (W:World) (B:Nat) (e d:Bool) (x y v:Value) (zs:List Int):Prop:=
 (d=true→e=true∧y=v∧W.ownsRow B 3 1 v zs.length (zs.map (Value.int .i64)))∧(d=false→e=true→x=v∧W.ownsRow B 3 1 v 0 [])∧(e=false→d=false∧v=.slice none 0 0)
def Ap (v u:Value):Prop:=∀ g,v.ownBlock=some g→u.ownBlock≠some g
theorem Ap.symm {v u:Value} (h:Ap v u):Ap u v:=fun g h1 h2=>h g h2 h1
theorem Chain.row {W:World} {B:Nat} {e d:Bool} {x y v:Value} {zs:List Int} (h:Chain W B e d x y v zs):∃ n xs,W.ownsRow B 3 1 v n xs:=by
 cases d
 ·cases e
  ·obtain ⟨_,rfl⟩:=h.2.2 rfl
   exact ⟨0,[],World.ownsRow_nil _ _ _ _⟩
  ·exact ⟨_,_,(h.2.1 rfl rfl).2⟩
 ·exact ⟨_,_,(h.1 rfl).2.2⟩
theorem Chain.lt {W:World} {B:Nat} {e d:Bool} {x y v:Value} {zs:List Int} (h:Chain W B e d x y v zs) {g:Nat} (hg:v.ownBlock=some g):g<W.heap.size:=by
 obtain ⟨n,xs,hr⟩:=h.row
 exact (hr.lt g hg).2
theorem Chain.kept {W W':World} {B:Nat} {e d:Bool} {x y v u:Value} {zs:List Int} (h:Chain W B e d x y v zs) (hg:W.grownBy W' u.ownBlock) (ha:Ap v u):Chain W' B e d x y v zs:=by
 have hn:v.ownBlock=none∨v.ownBlock≠u.ownBlock:=by
  cases hv:v.ownBlock with
  | none=>exact .inl rfl
  | some g=>exact .inr fun e=>ha g hv e.symm
 exact ⟨fun h1=>⟨(h.1 h1).1,(h.1 h1).2.1,(h.1 h1).2.2.kept hg hn⟩,fun h1 h2=>⟨(h.2.1 h1 h2).1,(h.2.1 h1 h2).2.kept hg hn⟩,h.2.2⟩
theorem Ap.grown {W:World} {B:Nat} {e d:Bool} {x y v u u':Value} {zs:List Int} (h:Chain W B e d x y v zs) (ha:Ap v u) (hu:u'.ownBlock=u.ownBlock∨u'.ownBlock=some W.heap.size):Ap v u':=fun g hg h2=>by
 rcases hu with hu | hu
 ·exact ha g hg (hu▸h2)
 ·have:=h.lt hg
  rw [hu] at h2
  simp at h2
  omega

end Go.Proofs.YtojcgajjnmjjpaaDoor
