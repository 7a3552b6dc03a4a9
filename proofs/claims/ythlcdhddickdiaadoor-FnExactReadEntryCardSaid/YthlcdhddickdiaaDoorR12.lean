/-
  Joined: MrkT, Ent5, Ent6.
-/
import Derived.Test.YthlcdhddickdiaaDoorR11

namespace Go.Proofs.YthlcdhddickdiaaDoor
set_option maxRecDepth 100000
set_option maxHeartbeats 16000000
open Go.RowKit
set_option linter.unusedVariables false
set_option linter.unusedSimpArgs false

def Mid9 (B T:Nat) (w w':World):Prop:=Below B w w'∧∀ j,T≤j→j<w.heap.size→w'.heap[j]?=w.heap[j]?
theorem Mid9.refl (B T:Nat) (w:World):Mid9 B T w w:=⟨Below.refl _ _,fun _ _ _=>rfl⟩
theorem Mid9.step {B T:Nat} {w wr w1:World} {u:Value} (h:Mid9 B T w wr) (hg:wr.grownBy w1 u.ownBlock) (hsz:B≤wr.heap.size) (hlow:∀ x,u.ownBlock=some x→B≤x) (htop:∀ x,u.ownBlock=some x→x<T):Mid9 B T w w1:=
 ⟨h.1.grown hg hsz hlow,fun j hj hl=>by
  rw [hg.block j (Nat.lt_of_lt_of_le hl h.1.size) (fun e=>absurd (htop j e.symm) (by omega))]
  exact h.2 j hj hl⟩
theorem Mid9.blk {B T g t:Nat} {w w':World} {cs:List Value} (h:Mid9 B T w w') (hB:Blk w g t cs) (hg:T≤g):Blk w' g t cs:=(h.2 g hg hB.lt).trans hB


def OwnMT (w:World) (B T:Nat) (v:Value) (es:List E3):Prop:=∃ cs,w.ownsRow B 39 3 v es.length cs∧EntsTo w B es.length cs es∧(∀ x,v.ownBlock=some x→x<T)∧∀ t,t<es.length→(∀ x,(cs.getD (t*3+1) undef).ownBlock=some x→x<T)∧∀ x,(cs.getD (t*3+2) undef).ownBlock=some x→x<T
theorem OwnMT.below {w w':World} {B T:Nat} {v:Value} {es:List E3} (h:OwnMT w B T v es) (hb:Below w.heap.size w w'):OwnMT w' B T v es:=by
 obtain ⟨cs,h1,h2,h3,h4⟩:=h
 exact ⟨cs,owns8 h1 hb,h2.below hb,h3,h4⟩
theorem OwnM.top9 {w:World} {B:Nat} {v:Value} {es:List E3} (h:OwnM w B v es):OwnMT w B w.heap.size v es:=by
 obtain ⟨cs,h1,h2⟩:=h
 exact ⟨cs,h1,h2,fun x hx=>(h1.lt x hx).2,fun t ht=>⟨fun x hx=>((h2.1 t ht).2.1.lt x hx).2,fun x hx=>((h2.1 t ht).2.2.lt x hx).2⟩⟩


theorem Mid9.bel {B T:Nat} {w wr w1:World} (h:Mid9 B T w wr) (hb:Below wr.heap.size wr w1) (hB:B≤wr.heap.size):Mid9 B T w w1:=
 ⟨h.1.trans (hb.mono hB),fun j hj hl=>(hb.block j (Nat.lt_of_lt_of_le hl h.1.size)).trans (h.2 j hj hl)⟩
end Go.Proofs.YthlcdhddickdiaaDoor
