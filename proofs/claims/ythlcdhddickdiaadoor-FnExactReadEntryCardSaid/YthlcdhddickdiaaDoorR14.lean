/-
  Joined: RwL9, Ent8.
-/
import Derived.Test.YthlcdhddickdiaaDoorR13

namespace Go.Proofs.YthlcdhddickdiaaDoor
set_option maxRecDepth 100000
set_option maxHeartbeats 16000000
open Go.RowKit
set_option linter.unusedVariables false

def OwnL9 (w:World) (B:Nat) (v:Value) (z:List Int):Prop:=w.ownsRow B 3 1 v z.length (z.map (Value.int .i64))
def HeldL9 (w:World) (B:Nat) (v:Value) (z:List Int):Prop:=w.ownsRow B 3 1 v z.length ((mkTo 1 z z.length).map (Value.int .i64))
theorem OwnL9.below {w w':World} {B:Nat} {v:Value} {z:List Int} (h:OwnL9 w B v z) (hb:Below w.heap.size w w'):OwnL9 w' B v z:=owns8 h hb
theorem HeldL9.below {w w':World} {B:Nat} {v:Value} {z:List Int} (h:HeldL9 w B v z) (hb:Below w.heap.size w w'):HeldL9 w' B v z:=owns8 h hb
theorem OwnL9.under {w w':World} {B T:Nat} {v:Value} {z:List Int} (h:OwnL9 w B v z) (hT:∀ x,v.ownBlock=some x→x<T) (hb:Below T w w'):OwnL9 w' B v z:=by
 refine ⟨h.1,?_⟩
 rcases h.2 with h0 | ⟨g,cap,cur,hv,hBg,hg,rest⟩
 ·exact .inl h0
 ·exact .inr ⟨g,cap,cur,hv,hBg,(hb.block g (hT g (by rw [hv];rfl))).trans hg,rest⟩


theorem owns_under {w w':World} {B T e s n:Nat} {v:Value} {xs:List Value} (h:w.ownsRow B e s v n xs) (hT:∀ x,v.ownBlock=some x→x<T) (hb:Below T w w'):w'.ownsRow B e s v n xs:=by
 refine ⟨h.1,?_⟩
 rcases h.2 with h0 | ⟨g,cap,cur,hv,hBg,hg,rest⟩
 ·exact .inl h0
 ·exact .inr ⟨g,cap,cur,hv,hBg,(hb.block g (hT g (by rw [hv];rfl))).trans hg,rest⟩
theorem OwnET.under {w w':World} {B T T':Nat} {vb vf:Value} {e:E3} (h:OwnET w B T vb vf e) (hb:Below T' w w') (hT:T≤T'):OwnET w' B T vb vf e:=
 ⟨⟨owns_under h.1.1 (fun x hx=>Nat.lt_of_lt_of_le (h.2.1 x hx) hT) hb,owns_under h.1.2 (fun x hx=>Nat.lt_of_lt_of_le (h.2.2 x hx) hT) hb⟩,h.2⟩
theorem OwnMT.under {w w':World} {B T T':Nat} {v:Value} {es:List E3} (h:OwnMT w B T v es) (hb:Below T' w w') (hT:T≤T'):OwnMT w' B T v es:=by
 obtain ⟨cs,h1,h2,h3,h4⟩:=h
 exact ⟨cs,owns_under h1 (fun x hx=>Nat.lt_of_lt_of_le (h3 x hx) hT) hb,⟨fun t ht=>⟨(h2.1 t ht).1,owns_under (h2.1 t ht).2.1 (fun x hx=>Nat.lt_of_lt_of_le ((h4 t ht).1 x hx) hT) hb,owns_under (h2.1 t ht).2.2 (fun x hx=>Nat.lt_of_lt_of_le ((h4 t ht).2 x hx) hT) hb⟩,h2.2⟩,h3,h4⟩
theorem OwnE.nil9 (w:World) (B:Nat) (k:ByteArray):OwnE w B (.slice none 0 0) (.slice none 0 0) (k,[],[]):=⟨World.ownsRow_nil _ _ _ _,World.ownsRow_nil _ _ _ _⟩
theorem OwnM.lower {w:World} {B B':Nat} {v:Value} {es:List E3} (h:OwnM w B v es) (hB:B'≤B):OwnM w B' v es:=by
 obtain ⟨cs,h1,h2,h3⟩:=h
 exact ⟨cs,lower8 h1 hB,fun t ht=>⟨(h2 t ht).1,(h2 t ht).2.lower hB⟩,h3⟩
end Go.Proofs.YthlcdhddickdiaaDoor
