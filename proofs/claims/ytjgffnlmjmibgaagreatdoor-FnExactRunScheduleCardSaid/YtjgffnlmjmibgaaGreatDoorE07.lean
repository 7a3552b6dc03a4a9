/-
  Joined: Vm2, Marks.
-/
import Derived.Test.YtjgffnlmjmibgaaGreatDoorE06

namespace Go.Proofs.YtjgffnlmjmibgaaGreatDoor
set_option maxRecDepth 100000
set_option maxHeartbeats 16000000
open Go.RowKit

def OwnI (w:World) (B:Nat) (s:Sl) (zs:List Int):Prop:=w.ownsRow B 3 1 (.slice s.1 s.2.1 s.2.2) s.2.1 (zs.map (Value.int .i64))
def Apart (s s':Sl):Prop:=∀ g,(Value.slice s.1 s.2.1 s.2.2).ownBlock=some g→(Value.slice s'.1 s'.2.1 s'.2.2).ownBlock≠some g
def OwnV (w:World) (B:Nat) (s:S4) (m:V4):Prop:=
 (OwnI w B s.1 m.1∧OwnI w B s.2.1 m.2.1∧OwnI w B s.2.2.1 m.2.2.1∧OwnI w B s.2.2.2 m.2.2.2) ∧
 Apart s.1 s.2.1∧Apart s.1 s.2.2.1∧Apart s.1 s.2.2.2∧Apart s.2.1 s.2.2.1∧Apart s.2.1 s.2.2.2∧Apart s.2.2.1 s.2.2.2
def V4.fits (m:V4):Prop:=(∀ z ∈ m.1,(Lit.int .i64 z).wf=true)∧(∀ z ∈ m.2.1,(Lit.int .i64 z).wf=true)∧(∀ z ∈ m.2.2.1,(Lit.int .i64 z).wf=true)∧∀ z ∈ m.2.2.2,(Lit.int .i64 z).wf=true
theorem OwnI.ints {w:World} {B:Nat} {s:Sl} {zs:List Int} (h:OwnI w B s zs):Ints .i64 w s.1 s.2.1 s.2.2 zs:=by
 obtain ⟨a,n,c⟩:=s
 unfold OwnI at h
 simp only at h ⊢
 rcases h.2 with ⟨h0,h1⟩ | ⟨g,cap,cur,hv,_⟩
 ·cases h0
  have hl:zs.length=0:=by simpa using h.1
  exact ⟨hl,Nat.le_refl _,Nat.zero_le _,.inl rfl⟩
 ·cases hv
  exact Ints.of_owns h
theorem OwnI.below {w w':World} {B:Nat} {s:Sl} {zs:List Int} (h:OwnI w B s zs) (hb:Below w.heap.size w w'):OwnI w' B s zs:=owns_below h hb
theorem OwnV.below {w w':World} {B:Nat} {s:S4} {m:V4} (h:OwnV w B s m) (hb:Below w.heap.size w w'):OwnV w' B s m:=⟨⟨h.1.1.below hb,h.1.2.1.below hb,h.1.2.2.1.below hb,h.1.2.2.2.below hb⟩,h.2⟩
theorem OwnV.mem {w:World} {B:Nat} {s:S4} {m:V4} (h:OwnV w B s m) (hf:V4.fits m):Vmem w s m:=⟨⟨h.1.1.ints,hf.1⟩,⟨h.1.2.1.ints,hf.2.1⟩,⟨h.1.2.2.1.ints,hf.2.2.1⟩,⟨h.1.2.2.2.ints,hf.2.2.2⟩⟩
theorem own_lower {w:World} {B B' e s n:Nat} {v:Value} {cs:List Value} (h:w.ownsRow B e s v n cs) (hB:B'≤B):w.ownsRow B' e s v n cs:=by
 refine ⟨h.1,?_⟩
 rcases h.2 with h0 | ⟨g,cap,cur,hv,hg,rest⟩
 ·exact .inl h0
 ·exact .inr ⟨g,cap,cur,hv,Nat.le_trans hB hg,rest⟩
theorem box4 (w:World) (x y z u:Value) (t B:Nat) (hB:B≤w.heap.size):(w.alloc (.cells #[x,y,z,u] t)).ownsRow B t 4 (.slice (some ⟨w.heap.size,0,none⟩) 1 1) 1 [x,y,z,u]:=World.ownsRow_lit w #[x,y,z,u] 1 hB (by unfold maxLen;omega) rfl


def mkTo:Int→List Int→Nat→List Int
 | _,xs,0=>xs
 | _,[],_+1=>[]
 | k,_::xs,j+1=>k::mkTo (k+1) xs j
theorem mkTo_len:∀ (k:Int) (xs:List Int) (j:Nat),(mkTo k xs j).length=xs.length
 | _,xs,0=>by simp [mkTo]
 | _,[],_+1=>by simp [mkTo]
 | k,_::xs,j+1=>by simp [mkTo,mkTo_len]
theorem mkTo_set:∀ (k:Int) (xs:List Int) (j:Nat),j<xs.length→(mkTo k xs j).set j (k+j)=mkTo k xs (j+1)
 | _,[],j,h=>by simp at h
 | k,x::xs,0,_=>by simp [mkTo]
 | k,x::xs,j+1,h=>by
  have ih:=mkTo_set (k+1) xs j (by simpa using h)
  have e:k+((j+1:Nat):Int)=k+1+(j:Int):=by omega
  rw [e]
  simp only [mkTo,List.set_cons_succ,ih]
theorem mkTo_get:∀ (k:Int) (xs:List Int) (j i:Nat),i<j→j≤xs.length→(mkTo k xs j).getD i 0=k+i
 | _,xs,0,i,h,_=>by omega
 | _,[],j+1,i,_,h=>by simp at h
 | k,x::xs,j+1,0,_,_=>by simp [mkTo]
 | k,x::xs,j+1,i+1,h,hl=>by
  have ih:=mkTo_get (k+1) xs j i (by omega) (by simpa using hl)
  have e:k+((i+1:Nat):Int)=k+1+(i:Int):=by omega
  rw [e,← ih]
  simp [mkTo]

theorem markIntS_none (a:Option Addr) (cap:Nat) (k:Int) (w:World) :
  Calls Tryz.prog 38 #[.slice a 0 cap,.int .i64 k] w fun e w'=>e=.returned (.int .i64 k)∧w=w':=by
 go_enter Tryz.func38,Tryz.ntmps38
 go_wp2
 refine wp_loop_rounds 1 ?_
 rw [rounds_succ]
 go_wp2
 go_ret
 exact ⟨rfl,rfl⟩

theorem heldIntS_yes (a:Option Addr) (n cap:Nat) (k:Int) (zs:List Int) (w:World) (hk0:0≤k) (hk:k≤1000000000) (hn:n≤1048576) (h:Ints .i64 w a n cap zs) (hm:∀ i,i<n→zs.getD i 0=k+i) :
  Calls Tryz.prog 91 #[.slice a n cap,.int .i64 k] w fun e w'=>e=.returned (.int .i64 (k+n))∧w=w':=by
 obtain ⟨hl,hlc,hcm,hcase⟩:=h
 unfold maxLen at hcm
 by_cases h0:n=0
 ·subst h0
  have e0:k+((0:Nat):Int)=k:=by omega
  rw [e0]
  go_enter Tryz.func91,Tryz.ntmps91
  go_wp2
  refine wp_loop_rounds 1 ?_
  rw [rounds_succ]
  go_wp2
  go_ret
  exact ⟨rfl,rfl⟩
 ·rcases hcase with h0' | ⟨b,off,rfl,hblt,hcell⟩
  ·exact absurd h0' h0
  go_enter Tryz.func91,Tryz.ntmps91
  go_wp2
  go_loop [1,5] (fun sk si=>∃ j:Nat,j≤n∧si=.int .i64 j∧sk=.int .i64 (k+j)) (fun _ si=>n - (intOf si).toNat)
  case atStart=>exact ⟨0,by omega,rfl,by go_num⟩
  case round =>
   obtain ⟨j,hj,rfl,rfl⟩:=hrel
   by_cases hlt:j<n
   ·have hc:=hcell j hlt
    rw [hm j hlt] at hc
    have hne:((k+(j:Int)) != (k+(j:Int)))=false:=by simp
    clear hcell hm
    go_wp2
    go_round
    case rel=>exact ⟨j+1,by omega,by go_num,by go_num⟩
    case measure=>simp [intOf];omega
   ·obtain rfl:j=n:=by omega
    go_wp2
    go_ret
    exact ⟨rfl,rfl⟩
end Go.Proofs.YtjgffnlmjmibgaaGreatDoor
