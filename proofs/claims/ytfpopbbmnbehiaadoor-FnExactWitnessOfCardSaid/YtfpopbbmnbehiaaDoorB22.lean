/-
  Joined: Src2, TextS.
-/
import Derived.Test.YtfpopbbmnbehiaaDoorB21

namespace Go.Proofs.YtfpopbbmnbehiaaDoor
set_option maxRecDepth 100000
set_option maxHeartbeats 16000000
open Go.RowKit

abbrev Went (p:Nat) (w w':World):Prop:=w.grownBy w' (some p)
theorem Went.trans {p:Nat} {a b c:World} (h:Went p a b) (k:Went p b c):Went p a c:=
 ⟨k.os.trans h.os,k.tape.trans h.tape,k.output.trans h.output,Nat.le_trans h.size k.size,fun i hi hne=>(k.block i (Nat.lt_of_lt_of_le hi h.size) hne).trans (h.block i hi hne)⟩
theorem Went.below {p:Nat} {w w':World} (h:Went p w w') (hp:p≤w.heap.size):Below p w w':=
 (Below.refl _ _).grown h hp (fun k e=>by cases e;exact Nat.le_refl _)
theorem Went.alloc {p:Nat} {w w':World} (h:Went p w w') (o:Obj):Went p w (w'.alloc o):=h.trans (World.grownBy_alloc w' o _)
theorem Went.refl (p:Nat) (w:World):Went p w w:=World.grownBy.refl _ _
theorem Went.grown {p:Nat} {w w' w'':World} {row:Option Nat} (h:Went p w w') (g:w'.grownBy w'' row) (hr:∀ k,row=some k→w.heap.size≤k):Went p w w'':=
 ⟨g.os.trans h.os,g.tape.trans h.tape,g.output.trans h.output,Nat.le_trans h.size g.size,fun i hi hne=>(g.block i (Nat.lt_of_lt_of_le hi h.size) (fun e=>by have:=hr i e.symm;omega)).trans (h.block i hi hne)⟩
theorem Code.below {p n cap:Nat} {a:Option Addr} {w w':World} (h:Code w p a n cap) (hb:Below p w w'):Code w' p a n cap:=by
 obtain ⟨zs,⟨h1,h2,h3,h4⟩,h5,h6,h7⟩:=h
 refine ⟨zs,⟨h1,h2,h3,?_⟩,h5,h6,h7⟩
 rcases h4 with h4 | ⟨b,off,ha,hlt,hc⟩
 ·exact .inl h4
 ·rcases Nat.eq_zero_or_pos n with h0 | h0
  ·exact .inl h0
  ·have hbB:=h7 _ ha (by omega)
   exact .inr ⟨b,off,ha,by have:=hb.size;omega,fun t ht=>by rw [hb.cell (p:=⟨b,off+t,none⟩) hbB];exact hc t ht⟩


def opWL:List (List UInt8):=[[],[108,111,97,100],[115,116,111,114,101],[115,101,116],[97,100,100],[108,111,99,107],[117,110,108,111,99,107],[106,117,109,112],[97,115,115,101,114,116]]
def opB (k:Nat):ByteArray:=⟨(opWL.getD k []).toArray⟩

end Go.Proofs.YtfpopbbmnbehiaaDoor
