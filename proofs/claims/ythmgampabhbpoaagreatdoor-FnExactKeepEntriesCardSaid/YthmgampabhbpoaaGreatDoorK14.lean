/-
  Joined: Prog5, Marks.
-/
import Derived.Test.YthmgampabhbpoaaGreatDoorK05

namespace Go.Proofs.YthmgampabhbpoaaGreatDoor
set_option maxRecDepth 100000
set_option maxHeartbeats 16000000
open Go.RowKit

def RowsOwn (w:World) (B k:Nat) (vs:List Value) (rows:List (List I3)):Prop:=
 (∀ t,t<k→w.ownsRow B 158 3 (vs.getD t undef) (rows.getD t []).length (flat (rows.getD t []))) ∧
 ∀ t t',t<k→t'<k→t≠t'→(vs.getD t undef).ownBlock=none∨(vs.getD t undef).ownBlock≠(vs.getD t' undef).ownBlock

theorem RowsOwn.below {w w':World} {B k:Nat} {vs:List Value} {rows:List (List I3)} (h:RowsOwn w B k vs rows) (hb:Below w.heap.size w w'):RowsOwn w' B k vs rows:=⟨fun t ht=>owns_below (h.1 t ht) hb,h.2⟩

theorem RowsOwn.put {w w':World} {B P k G len:Nat} {vs:List Value} {rows:List (List I3)} (h:RowsOwn w B k vs rows) (hb:Below w.heap.size w w') (hk:k<vs.length) (hG:w.heap.size≤G)
  (hn:w'.ownsRow B 158 3 (.slice (some ⟨G,0,none⟩) len len) (rows.getD k []).length (flat (rows.getD k []))) (hP:P<w.heap.size) (hPn:∀ t,t<k→(vs.getD t undef).ownBlock≠some P) :
  RowsOwn (w'.setCell ⟨P,k,none⟩ (.slice (some ⟨G,0,none⟩) len len)) B (k+1) (vs.set k (.slice (some ⟨G,0,none⟩) len len)) rows:=by
 have hold:∀ t,t≠k→(vs.set k (.slice (some ⟨G,0,none⟩) len len)).getD t undef=vs.getD t undef:=fun t ht=>by simp [List.getD,List.getElem?_set_ne (Ne.symm ht)]
 have hnew:(vs.set k (.slice (some ⟨G,0,none⟩) len len)).getD k undef=.slice (some ⟨G,0,none⟩) len len:=by simp [List.getD,hk]
 refine ⟨fun t ht=>?_,fun t t' ht ht' hne=>?_⟩
 ·by_cases e:t=k
  ·subst e
   rw [hnew]
   exact ownsRow_setCell_other hn (by simp [Value.ownBlock];omega) _
  ·rw [hold t e]
   exact ownsRow_setCell_other (owns_below (h.1 t (by omega)) hb) (hPn t (by omega)) _
 ·by_cases e:t=k
  ·subst e
   rw [hnew,hold t' (Ne.symm hne)]
   refine .inr ?_
   simp only [Value.ownBlock,ne_eq]
   intro h'
   have:=((h.1 t' (by omega)).lt G h'.symm).2
   omega
  ·rw [hold t e]
   by_cases e':t'=k
   ·subst e'
    rw [hnew]
    rcases hbk:(vs.getD t undef).ownBlock with _ | x
    ·exact .inl rfl
    ·refine .inr ?_
     simp only [Value.ownBlock,ne_eq,Option.some.injEq]
     have:=((h.1 t (by omega)).lt x hbk).2
     omega
   ·rw [hold t' e']
    exact h.2 t t' (by omega) (by omega) hne

theorem OwnProg.low {w:World} {B:Nat} {v:Value} {rows:List (List I3)} (h:OwnProg w B v rows) {p:Addr} (hp:p.block<B) (u:Value):OwnProg (w.setCell p u) B v rows:=by
 obtain ⟨vs,h1,h2,h3,h4⟩:=h
 exact ⟨vs,ownsRow_setCell_below h1 hp _,h2,fun t ht=>ownsRow_setCell_below (h3 t ht) hp _,h4⟩


def mkTo:Int→List Int→Nat→List Int
 | _,xs,0=>xs
 | _,[],_+1=>[]
 | k,_::xs,j+1=>k::mkTo (k+1) xs j
theorem mkTo_len:∀ (k:Int) (xs:List Int) (j:Nat),(mkTo k xs j).length=xs.length
 | _,xs,0=>by simp [mkTo]
 | _,[],_+1=>by simp [mkTo]
 | k,_::xs,j+1=>by simp [mkTo,mkTo_len]
theorem mkTo_set:∀ (k:Int) (xs:List Int) (j:Nat),j<xs.length→(mkTo k xs j).set j (k+j)=mkTo k xs (j+1)
 | _,[],j,h=>by simp at h
 | k,x::xs,0,_=>by simp [mkTo]
 | k,x::xs,j+1,h=>by
  have ih:=mkTo_set (k+1) xs j (by simpa using h)
  have e:k+((j+1:Nat):Int)=k+1+(j:Int):=by omega
  rw [e]
  simp only [mkTo,List.set_cons_succ,ih]
theorem mkTo_get:∀ (k:Int) (xs:List Int) (j i:Nat),i<j→j≤xs.length→(mkTo k xs j).getD i 0=k+i
 | _,xs,0,i,h,_=>by omega
 | _,[],j+1,i,_,h=>by simp at h
 | k,x::xs,j+1,0,_,_=>by simp [mkTo]
 | k,x::xs,j+1,i+1,h,hl=>by
  have ih:=mkTo_get (k+1) xs j i (by omega) (by simpa using hl)
  have e:k+((i+1:Nat):Int)=k+1+(i:Int):=by omega
  rw [e,← ih]
  simp [mkTo]

theorem markIntS_none (a:Option Addr) (cap:Nat) (k:Int) (w:World) :
  Calls Tryz.prog 26 #[.slice a 0 cap,.int .i64 k] w fun e w'=>e=.returned (.int .i64 k)∧w=w':=by
 go_enter Tryz.func26,Tryz.ntmps26
 go_wp2
 refine wp_loop_rounds 1 ?_
 rw [rounds_succ]
 go_wp2
 go_ret
 exact ⟨rfl,rfl⟩

theorem heldIntS_yes (a:Option Addr) (n cap:Nat) (k:Int) (zs:List Int) (w:World) (hk0:0≤k) (hk:k≤1000000000) (hn:n≤1048576) (h:Ints .i64 w a n cap zs) (hm:∀ i,i<n→zs.getD i 0=k+i) :
  Calls Tryz.prog 108 #[.slice a n cap,.int .i64 k] w fun e w'=>e=.returned (.int .i64 (k+n))∧w=w':=by
 obtain ⟨hl,hlc,hcm,hcase⟩:=h
 unfold maxLen at hcm
 by_cases h0:n=0
 ·subst h0
  have e0:k+((0:Nat):Int)=k:=by omega
  rw [e0]
  go_enter Tryz.func108,Tryz.ntmps108
  go_wp2
  refine wp_loop_rounds 1 ?_
  rw [rounds_succ]
  go_wp2
  go_ret
  exact ⟨rfl,rfl⟩
 ·rcases hcase with h0' | ⟨b,off,rfl,hblt,hcell⟩
  ·exact absurd h0' h0
  go_enter Tryz.func108,Tryz.ntmps108
  go_wp2
  go_loop [1,5] (fun sk si=>∃ j:Nat,j≤n∧si=.int .i64 j∧sk=.int .i64 (k+j)) (fun _ si=>n - (intOf si).toNat)
  case atStart=>exact ⟨0,by omega,rfl,by go_num⟩
  case round =>
   obtain ⟨j,hj,rfl,rfl⟩:=hrel
   by_cases hlt:j<n
   ·have hc:=hcell j hlt
    rw [hm j hlt] at hc
    have hne:((k+(j:Int)) != (k+(j:Int)))=false:=by simp
    clear hcell hm
    go_wp2
    go_round
    case rel=>exact ⟨j+1,by omega,by go_num,by go_num⟩
    case measure=>simp [intOf];omega
   ·obtain rfl:j=n:=by omega
    go_wp2
    go_ret
    exact ⟨rfl,rfl⟩
end Go.Proofs.YthmgampabhbpoaaGreatDoor
