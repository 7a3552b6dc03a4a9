/-
  Joined: Marks.
-/
import Derived.Test.YtmhlokahmblboaaGreatDoorQ01

namespace Go.Proofs.YtmhlokahmblboaaGreatDoor
set_option maxRecDepth 100000
set_option maxHeartbeats 16000000
open Go.RowKit

def Vg:Int→List Int→Nat→List Int
 | _,xs,0=>xs
 | _,[],_+1=>[]
 | k,_::xs,j+1=>k::Vg (k+1) xs j
theorem Tg:∀ (k:Int) (xs:List Int) (j:Nat),(Vg k xs j).length=xs.length
 | _,xs,0=>by simp [Vg]
 | _,[],_+1=>by simp [Vg]
 | k,_::xs,j+1=>by simp [Vg,Tg]
theorem N0:∀ (k:Int) (xs:List Int) (j:Nat),j<xs.length→(Vg k xs j).set j (k+j)=Vg k xs (j+1)
 | _,[],j,h=>by simp at h
 | k,x::xs,0,_=>by simp [Vg]
 | k,x::xs,j+1,h=>by
  have ih:=N0 (k+1) xs j (by simpa using h)
  have e:k+((j+1:Nat):Int)=k+1+(j:Int):=by omega
  rw [e]
  simp only [Vg,List.set_cons_succ,ih]
theorem NZ:∀ (k:Int) (xs:List Int) (j i:Nat),i<j→j≤xs.length→(Vg k xs j).getD i 0=k+i
 | _,xs,0,i,h,_=>by omega
 | _,[],j+1,i,_,h=>by simp at h
 | k,x::xs,j+1,0,_,_=>by simp [Vg]
 | k,x::xs,j+1,i+1,h,hl=>by
  have ih:=NZ (k+1) xs j i (by omega) (by simpa using hl)
  have e:k+((i+1:Nat):Int)=k+1+(i:Int):=by omega
  rw [e,← ih]
  simp [Vg]

theorem Qx (a:Option Addr) (cap:Nat) (k:Int) (w:World) :
  Calls Tryz.prog 118 #[.slice a 0 cap,.int .i64 k] w fun e w'=>e=.returned (.int .i64 k)∧w=w':=by
 go_enter Tryz.func118,Tryz.ntmps118
 go_wp2
 refine wp_loop_rounds 1 ?_
 rw [rounds_succ]
 go_wp2
 go_ret
 exact ⟨rfl,rfl⟩

theorem PF (a:Option Addr) (n cap:Nat) (k:Int) (zs:List Int) (w:World) (hk0:0≤k) (hk:k≤1000000000) (hn:n≤1048576) (h:ZW .i64 w a n cap zs) (hm:∀ i,i<n→zs.getD i 0=k+i) :
  Calls Tryz.prog 119 #[.slice a n cap,.int .i64 k] w fun e w'=>e=.returned (.int .i64 (k+n))∧w=w':=by
 obtain ⟨hl,hlc,hcm,hcase⟩:=h
 unfold maxLen at hcm
 by_cases h0:n=0
 ·subst h0
  have e0:k+((0:Nat):Int)=k:=by omega
  rw [e0]
  go_enter Tryz.func119,Tryz.ntmps119
  go_wp2
  refine wp_loop_rounds 1 ?_
  rw [rounds_succ]
  go_wp2
  go_ret
  exact ⟨rfl,rfl⟩
 rcases hcase with h0' | ⟨b,off,rfl,hblt,hcell⟩
 ·exact absurd h0' h0
 go_enter Tryz.func119,Tryz.ntmps119
 go_wp2
 go_loop [1,5] (fun sk si=>∃ j:Nat,j≤n∧si=.int .i64 j∧sk=.int .i64 (k+j)) (fun _ si=>n - (intOf si).toNat)
 case atStart=>exact ⟨0,by omega,rfl,by go_num⟩
 case round =>
  obtain ⟨j,hj,rfl,rfl⟩:=hrel
  by_cases hlt:j<n
  ·have hc:=hcell j hlt
   rw [hm j hlt] at hc
   have hne:((k+(j:Int)) != (k+(j:Int)))=false:=by simp
   clear hcell hm
   go_wp2
   go_round
   case rel=>exact ⟨j+1,by omega,by go_num,by go_num⟩
   case measure=>simp [intOf];omega
  obtain rfl:j=n:=by omega
  go_wp2
  go_ret
  exact ⟨rfl,rfl⟩
end Go.Proofs.YtmhlokahmblboaaGreatDoor
