/-
  Joined: Ent7.
-/
import Derived.Test.YthlcdhddickdiaaDoorR12

namespace Go.Proofs.YthlcdhddickdiaaDoor
set_option maxRecDepth 100000
set_option maxHeartbeats 16000000
open Go.RowKit
set_option linter.unusedVariables false
set_option linter.unusedSimpArgs false

theorem own_ne_blk9' {w:World} {B e s n g t:Nat} {v:Value} {xs cs:List Value} (h:w.ownsRow B e s v n xs) (hB:Blk w g t cs) (he:e≠t):v.ownBlock≠some g:=by
 rcases h.2 with ⟨rfl,_⟩ | ⟨g',cap,cur,rfl,_,hh,_⟩
 ·simp [Value.ownBlock]
 ·simp only [Value.ownBlock,ne_eq,Option.some.injEq]
  rintro rfl
  unfold Blk at hB
  rw [hh] at hB
  simp at hB
  exact he hB.2
def OwnET (w:World) (B T:Nat) (vb vf:Value) (e:E3):Prop:=OwnE w B vb vf e∧(∀ x,vb.ownBlock=some x→x<T)∧∀ x,vf.ownBlock=some x→x<T
theorem OwnET.below {w w':World} {B T:Nat} {vb vf:Value} {e:E3} (h:OwnET w B T vb vf e) (hb:Below w.heap.size w w'):OwnET w' B T vb vf e:=⟨h.1.below hb,h.2⟩
theorem OwnE.top9 {w:World} {B:Nat} {vb vf:Value} {e:E3} (h:OwnE w B vb vf e):OwnET w B w.heap.size vb vf e:=⟨h,fun x hx=>(h.1.lt x hx).2,fun x hx=>(h.2.lt x hx).2⟩
def mkF (k:Nat) (e:E3):E3:=(e.1,mkI (k:Int) e.2.1 e.2.1.length,mkTo ((k:Int)+e.2.1.length*3) e.2.2 e.2.2.length)

end Go.Proofs.YthlcdhddickdiaaDoor
