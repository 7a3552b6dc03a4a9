/-
  Joined: Marks, RwI.
-/
import Derived.Test.YtfpopbbmnbehiaaGreatDoorC01

namespace Go.Proofs.YtfpopbbmnbehiaaGreatDoor
set_option maxRecDepth 100000
set_option maxHeartbeats 16000000
open Go.RowKit

def mkTo:Int→List Int→Nat→List Int
 | _,xs,0=>xs
 | _,[],_+1=>[]
 | k,_::xs,j+1=>k::mkTo (k+1) xs j
theorem mkTo_len:∀ (k:Int) (xs:List Int) (j:Nat),(mkTo k xs j).length=xs.length
 | _,xs,0=>by simp [mkTo]
 | _,[],_+1=>by simp [mkTo]
 | k,_::xs,j+1=>by simp [mkTo,mkTo_len]
theorem mkTo_set:∀ (k:Int) (xs:List Int) (j:Nat),j<xs.length→(mkTo k xs j).set j (k+j)=mkTo k xs (j+1)
 | _,[],j,h=>by simp at h
 | k,x::xs,0,_=>by simp [mkTo]
 | k,x::xs,j+1,h=>by
  have ih:=mkTo_set (k+1) xs j (by simpa using h)
  have e:k+((j+1:Nat):Int)=k+1+(j:Int):=by omega
  rw [e]
  simp only [mkTo,List.set_cons_succ,ih]
theorem mkTo_get:∀ (k:Int) (xs:List Int) (j i:Nat),i<j→j≤xs.length→(mkTo k xs j).getD i 0=k+i
 | _,xs,0,i,h,_=>by omega
 | _,[],j+1,i,_,h=>by simp at h
 | k,x::xs,j+1,0,_,_=>by simp [mkTo]
 | k,x::xs,j+1,i+1,h,hl=>by
  have ih:=mkTo_get (k+1) xs j i (by omega) (by simpa using hl)
  have e:k+((i+1:Nat):Int)=k+1+(i:Int):=by omega
  rw [e,← ih]
  simp [mkTo]

theorem markIntS_none (a:Option Addr) (cap:Nat) (k:Int) (w:World) :
  Calls Tryz.prog 47 #[.slice a 0 cap,.int .i64 k] w fun e w'=>e=.returned (.int .i64 k)∧w=w':=by
 go_enter Tryz.func47,Tryz.ntmps47
 go_wp2
 refine wp_loop_rounds 1 ?_
 rw [rounds_succ]
 go_wp2
 go_ret
 exact ⟨rfl,rfl⟩

theorem heldIntS_yes (a:Option Addr) (n cap:Nat) (k:Int) (zs:List Int) (w:World) (hk0:0≤k) (hk:k≤1000000000) (hn:n≤1048576) (h:Ints .i64 w a n cap zs) (hm:∀ i,i<n→zs.getD i 0=k+i) :
  Calls Tryz.prog 48 #[.slice a n cap,.int .i64 k] w fun e w'=>e=.returned (.int .i64 (k+n))∧w=w':=by
 obtain ⟨hl,hlc,hcm,hcase⟩:=h
 unfold maxLen at hcm
 by_cases h0:n=0
 ·subst h0
  have e0:k+((0:Nat):Int)=k:=by omega
  rw [e0]
  go_enter Tryz.func48,Tryz.ntmps48
  go_wp2
  refine wp_loop_rounds 1 ?_
  rw [rounds_succ]
  go_wp2
  go_ret
  exact ⟨rfl,rfl⟩
 ·rcases hcase with h0' | ⟨b,off,rfl,hblt,hcell⟩
  ·exact absurd h0' h0
  go_enter Tryz.func48,Tryz.ntmps48
  go_wp2
  go_loop [1,5] (fun sk si=>∃ j:Nat,j≤n∧si=.int .i64 j∧sk=.int .i64 (k+j)) (fun _ si=>n - (intOf si).toNat)
  case atStart=>exact ⟨0,by omega,rfl,by go_num⟩
  case round =>
   obtain ⟨j,hj,rfl,rfl⟩:=hrel
   by_cases hlt:j<n
   ·have hc:=hcell j hlt
    rw [hm j hlt] at hc
    have hne:((k+(j:Int)) != (k+(j:Int)))=false:=by simp
    clear hcell hm
    go_wp2
    go_round
    case rel=>exact ⟨j+1,by omega,by go_num,by go_num⟩
    case measure=>simp [intOf];omega
   ·obtain rfl:j=n:=by omega
    go_wp2
    go_ret
    exact ⟨rfl,rfl⟩

set_option linter.unusedVariables false
set_option linter.unusedSimpArgs false

def IsL (w:World) (v:Value) (xs:List Int):Prop:=∃ la ln lc,v=.slice la ln lc∧Ints .i64 w la ln lc xs
theorem IsL.below {w w':World} {v:Value} {xs:List Int} (h:IsL w v xs) (hb:Below w.heap.size w w'):IsL w' v xs:=by
 obtain ⟨la,ln,lc,rfl,hi⟩:=h
 exact ⟨la,ln,lc,rfl,hi.below hb⟩
def AllL (w:World) (vs:List Value) (xss:List (List Int)):Prop:=vs.length=xss.length∧∀ t,t<xss.length→IsL w (vs.getD t undef) (xss.getD t [])
theorem AllL.below {w w':World} {vs:List Value} {xss:List (List Int)} (h:AllL w vs xss) (hb:Below w.heap.size w w'):AllL w' vs xss:=⟨h.1,fun t ht=>(h.2 t ht).below hb⟩
theorem AllL.nil (w:World):AllL w [] []:=⟨rfl,fun t ht=>by simp at ht⟩
theorem AllL.snoc {w:World} {vs:List Value} {xss:List (List Int)} {v:Value} {xs:List Int} (h:AllL w vs xss) (hv:IsL w v xs):AllL w (vs++[v]) (xss++[xs]):=by
 refine ⟨by simp [h.1],fun t ht=>?_⟩
 by_cases h9:t<xss.length
 ·have e1:(vs++[v]).getD t undef=vs.getD t undef:=by simp [List.getD,List.getElem?_append_left (show t<vs.length by have:=h.1;omega)]
  have e2:(xss++[xs]).getD t []=xss.getD t []:=by simp [List.getD,List.getElem?_append_left h9]
  rw [e1,e2]
  exact h.2 t h9
 ·have e9:t=xss.length:=by simp at ht;omega
  subst e9
  have e1:(vs++[v]).getD xss.length undef=v:=by rw [← h.1];simp [List.getD]
  have e2:(xss++[xs]).getD xss.length []=xs:=by simp [List.getD]
  rw [e1,e2]
  exact hv
def RowsI (w:World) (a:Option Addr) (n c:Nat) (xss:List (List Int)):Prop:=
 xss.length=n∧n≤c∧c≤maxLen∧∃ vs,AllL w vs xss∧(n=0∨∃ b off,a=some ⟨b,off,none⟩∧b<w.heap.size∧∀ t,t<n→w.cell? ⟨b,off+t,none⟩=some (vs.getD t undef))
theorem RowsI.below {w w':World} {a:Option Addr} {n c:Nat} {xss:List (List Int)} (h:RowsI w a n c xss) (hb:Below w.heap.size w w'):RowsI w' a n c xss:=by
 obtain ⟨h1,h2,h3,vs,h4,h5⟩:=h
 refine ⟨h1,h2,h3,vs,h4.below hb,?_⟩
 rcases h5 with h5 | ⟨b,off,h6,h7,h8⟩
 ·exact .inl h5
 ·exact .inr ⟨b,off,h6,Nat.lt_of_lt_of_le h7 hb.size,fun t ht=>by rw [hb.cell (p:=⟨b,off+t,none⟩) h7];exact h8 t ht⟩
theorem RowsI.cell {w:World} {a:Option Addr} {n c:Nat} {xss:List (List Int)} (h:RowsI w a n c xss) {t:Nat} (ht:t<n):∃ b off la ln lc,a=some ⟨b,off,none⟩∧w.cell? ⟨b,off+t,none⟩=some (.slice la ln lc)∧Ints .i64 w la ln lc (xss.getD t []):=by
 obtain ⟨h1,h2,h3,vs,h4,h5⟩:=h
 rcases h5 with h5 | ⟨b,off,h6,h7,h8⟩
 ·omega
 ·obtain ⟨la,ln,lc,e,hi⟩:=h4.2 t (by omega)
  exact ⟨b,off,la,ln,lc,h6,by rw [h8 t ht,e],hi⟩
theorem RowsI.own {w:World} {B n c:Nat} {a:Option Addr} {vs:List Value} {xss:List (List Int)} (h:w.ownsRow B 31 1 (.slice a n c) n vs) (hl:xss.length=n) (hA:AllL w vs xss):RowsI w a n c xss:=by
 rcases h.2 with ⟨e,h0⟩ | ⟨b,cc,cur,e,h1,h2,h3,h4⟩
 ·cases e
  exact ⟨by omega,by omega,by unfold maxLen;omega,vs,hA,.inl (by omega)⟩
 ·cases e
  refine ⟨hl,by omega,by omega,vs,hA,.inr ⟨b,0,rfl,(h.lt b rfl).2,fun t ht=>?_⟩⟩
  rw [Nat.zero_add,h.cellAt t (by omega)]
  have hq:=hA.1
  simp [List.getD,show t<vs.length by omega]
end Go.Proofs.YtfpopbbmnbehiaaGreatDoor
