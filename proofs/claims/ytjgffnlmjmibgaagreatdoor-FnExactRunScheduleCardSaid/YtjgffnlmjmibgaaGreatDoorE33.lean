/-
  Joined: Src, Src2.
-/
import Derived.BigRegion
import Derived.Test.YtjgffnlmjmibgaaGreatDoorE01

namespace Go.Proofs.YtjgffnlmjmibgaaGreatDoor
set_option maxRecDepth 100000
set_option maxHeartbeats 16000000
open Go.RowKit

def Src (w:World) (p:Nat) (c:Value) (T:Nat):Prop:=∃ m sd:Nat,w.heap[p]?=some (.cells #[c,.int .i64 m,.int .i64 sd] 138 (0,0))∧m≤T∧sd≤2147483647
def Code (w:World) (p:Nat) (a:Option Addr) (n cap:Nat):Prop:=∃ zs:List Int,Ints .u8 w a n cap zs∧(∀ z ∈ zs,0≤z∧z≤255)∧n≤1048576∧∀ x,a=some x→n≠0→x.block<p


abbrev Went (p:Nat) (w w':World):Prop:=w.grownBy w' (some p)
theorem Went.trans {p:Nat} {a b c:World} (h:Went p a b) (k:Went p b c):Went p a c:=
 ⟨k.os.trans h.os,k.tape.trans h.tape,k.output.trans h.output,Nat.le_trans h.size k.size,fun i hi hne=>(k.block i (Nat.lt_of_lt_of_le hi h.size) hne).trans (h.block i hi hne)⟩
theorem Went.below {p:Nat} {w w':World} (h:Went p w w') (hp:p≤w.heap.size):Below p w w':=
 (Below.refl _ _).grown h hp (fun k e=>by cases e;exact Nat.le_refl _)
theorem Went.alloc {p:Nat} {w w':World} (h:Went p w w') (o:Obj):Went p w (w'.alloc o):=h.trans (World.grownBy_alloc w' o _)
theorem Went.refl (p:Nat) (w:World):Went p w w:=World.grownBy.refl _ _
theorem Went.grown {p:Nat} {w w' w'':World} {row:Option Nat} (h:Went p w w') (g:w'.grownBy w'' row) (hr:∀ k,row=some k→w.heap.size≤k):Went p w w'':=
 ⟨g.os.trans h.os,g.tape.trans h.tape,g.output.trans h.output,Nat.le_trans h.size g.size,fun i hi hne=>(g.block i (Nat.lt_of_lt_of_le hi h.size) (fun e=>by have:=hr i e.symm;omega)).trans (h.block i hi hne)⟩
theorem Src.grown {p T:Nat} {c:Value} {w w':World} {row:Option Nat} (h:Src w p c T) (g:w.grownBy w' row) (hr:∀ k,row=some k→k≠p):Src w' p c T:=by
 obtain ⟨m,sd,hh,h1,h2⟩:=h
 have hl:p<w.heap.size:=(Array.getElem?_eq_some_iff.1 hh).1
 exact ⟨m,sd,by rw [g.block p hl (fun e=>hr p e.symm rfl)];exact hh,h1,h2⟩
theorem Src.alloc {p T:Nat} {c:Value} {w:World} (h:Src w p c T) (o:Obj):Src (w.alloc o) p c T:=h.grown (World.grownBy_alloc w o none) (fun k e=>by cases e)
theorem Src.lt {p T:Nat} {c:Value} {w:World} (h:Src w p c T):p<w.heap.size:=by
 obtain ⟨m,sd,hh,_⟩:=h
 exact (Array.getElem?_eq_some_iff.1 hh).1
theorem Src.mono {p T T':Nat} {c:Value} {w:World} (h:Src w p c T) (ht:T≤T'):Src w p c T':=by
 obtain ⟨m,sd,hh,h1,h2⟩:=h
 exact ⟨m,sd,hh,Nat.le_trans h1 ht,h2⟩
theorem Code.below {p n cap:Nat} {a:Option Addr} {w w':World} (h:Code w p a n cap) (hb:Below p w w'):Code w' p a n cap:=by
 obtain ⟨zs,⟨h1,h2,h3,h4⟩,h5,h6,h7⟩:=h
 refine ⟨zs,⟨h1,h2,h3,?_⟩,h5,h6,h7⟩
 rcases h4 with h4 | ⟨b,off,ha,hlt,hc⟩
 ·exact .inl h4
 ·rcases Nat.eq_zero_or_pos n with h0 | h0
  ·exact .inl h0
  ·have hbB:=h7 _ ha (by omega)
   exact .inr ⟨b,off,ha,by have:=hb.size;omega,fun t ht=>by rw [hb.cell (p:=⟨b,off+t,none⟩) hbB];exact hc t ht⟩
end Go.Proofs.YtjgffnlmjmibgaaGreatDoor
