/-
  Joined: UnframeI, MachI, SpecO.
-/
import Derived.Test.YtdopgkbegjfhjaaGreatDoorR21

namespace Go.Proofs.YtdopgkbegjfhjaaGreatDoor
set_option maxRecDepth 100000
set_option maxHeartbeats 16000000
open Go.RowKit

theorem implUnframeText_any (s:ByteArray) (w:World) (hs:s.size≤65536) (hE:ErrType w) :
  Calls Tryz.prog 94 #[.string s] w fun e w'=>Unframed s e∧Below w.heap.size w w':=by
 go_enter Tryz.func94,Tryz.ntmps94
 go_wp2_with fail
 refine (readFrame_any s _ hs).mono ?_
 rintro e w1 ⟨hk,hb1⟩
 have hE1:=hE.below hb1
 rcases hk with ⟨n,k,hn,hs1,rfl⟩ | ⟨n,k,hn,hs1,y,rfl⟩ | ⟨hn,y,rfl⟩
 ·have HN:Hid (Framed s n k∧sumAt s k=sumTo (frameText s n k) (frameText s n k).size):=⟨hn,hs1⟩
  clear hn hs1
  go_wp2_with fail
  refine (faultCode_nil _).mono ?_
  rintro e w2 ⟨rfl,hb2⟩
  go_wp2
  go_ret3
  exact ⟨.inl ⟨n,k,HN.out.1,HN.out.2,rfl⟩,sub_trans hb1 hb2⟩
 ·have HN:Hid (Framed s n k∧sumAt s k≠sumTo (frameText s n k) (frameText s n k).size):=⟨hn,hs1⟩
  clear hn hs1
  go_wp2_with fail
  refine (faultCode_hit 9 y _ hE1).mono ?_
  rintro e w2 ⟨rfl,hb2⟩
  go_wp2
  go_ret3
  exact ⟨.inr (.inl ⟨n,k,HN.out.1,HN.out.2,rfl⟩),sub_trans hb1 hb2⟩
 ·have HN:Hid (NoFrame s):=hn
  clear hn
  go_wp2_with fail
  refine (faultCode_hit 3 y _ hE1).mono ?_
  rintro e w2 ⟨rfl,hb2⟩
  go_wp2
  go_ret3
  exact ⟨.inr (.inr ⟨HN.out,rfl⟩),sub_trans hb1 hb2⟩


def slK (cs:Sl × Sl × Sl):Nat→Sl
 | 0=>cs.1
 | 1=>cs.2.1
 | _=>cs.2.2

set_option linter.unusedVariables false
set_option linter.unusedSimpArgs false

def Chain (W:World) (B:Nat) (e d:Bool) (x y v:Value) (zs:List Int):Prop:=
 (d=true→e=true∧y=v∧W.ownsRow B 3 1 v zs.length (zs.map (Value.int .i64)))∧(d=false→e=true→x=v∧W.ownsRow B 3 1 v 0 [])∧(e=false→d=false∧v=.slice none 0 0)
def Ap (v u:Value):Prop:=∀ g,v.ownBlock=some g→u.ownBlock≠some g
theorem Ap.symm {v u:Value} (h:Ap v u):Ap u v:=fun g h1 h2=>h g h2 h1
theorem Chain.row {W:World} {B:Nat} {e d:Bool} {x y v:Value} {zs:List Int} (h:Chain W B e d x y v zs):∃ n xs,W.ownsRow B 3 1 v n xs:=by
 cases d
 ·cases e
  ·obtain ⟨_,rfl⟩:=h.2.2 rfl
   exact ⟨0,[],World.ownsRow_nil _ _ _ _⟩
  ·exact ⟨_,_,(h.2.1 rfl rfl).2⟩
 ·exact ⟨_,_,(h.1 rfl).2.2⟩
theorem Chain.lt {W:World} {B:Nat} {e d:Bool} {x y v:Value} {zs:List Int} (h:Chain W B e d x y v zs) {g:Nat} (hg:v.ownBlock=some g):g<W.heap.size:=by
 obtain ⟨n,xs,hr⟩:=h.row
 exact (hr.lt g hg).2
theorem Ap.grown {W:World} {B:Nat} {e d:Bool} {x y v u u':Value} {zs:List Int} (h:Chain W B e d x y v zs) (ha:Ap v u) (hu:u'.ownBlock=u.ownBlock∨u'.ownBlock=some W.heap.size):Ap v u':=fun g hg h2=>by
 rcases hu with hu | hu
 ·exact ha g hg (hu▸h2)
 ·have:=h.lt hg
  rw [hu] at h2
  simp at h2
  omega

end Go.Proofs.YtdopgkbegjfhjaaGreatDoor
