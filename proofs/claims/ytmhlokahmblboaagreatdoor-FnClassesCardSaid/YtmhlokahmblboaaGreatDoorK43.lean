/-
  Joined: SmL.
-/
import Derived.Test.YtmhlokahmblboaaGreatDoorK01

namespace Go.Proofs.YtmhlokahmblboaaGreatDoor
set_option maxRecDepth 100000
set_option maxHeartbeats 16000000
open Go.RowKit

theorem Kg {xs ys:List Int} (hl:xs.length=ys.length) (h:∀ i,i<xs.length→xs.getD i 0=ys.getD i 0):xs=ys:=by
 refine List.ext_getElem hl (fun i h1 h2=>?_)
 have:=h i h1
 simpa [List.getD,h1,h2] using this

theorem MG (a:Option Addr) (n c:Nat) (xs:List Int) (a':Option Addr) (n' c':Nat) (ys:List Int) (w:World) (h:YS .i64 w a n c xs) (h':YS .i64 w a' n' c' ys) :
  Calls Tryz.prog 84 #[.slice a n c,.slice a' n' c'] w fun e w'=>e=.returned (.bool (decide (xs=ys)))∧∃ d,w'=w.drewN d:=by
 obtain ⟨dd,hdd⟩:∃ dd,dd=decide (xs=ys):=⟨_,rfl⟩
 rw [← hdd]
 have HD:Hid (dd=decide (xs=ys)):=hdd
 clear hdd
 obtain ⟨hl,hlc,hcm,hcase⟩:=h
 obtain ⟨hl',hlc',hcm',hcase'⟩:=h'
 unfold maxLen at hcm hcm'
 by_cases hnn:n=n'
 case neg =>
  have hne:((n:Int) != (n':Int))=true:=by simp;omega
  have HF:Hid (dd=false):=by
   rw [Hid,HD.out,decide_eq_false_iff_not]
   intro e
   rw [e,hl'] at hl
   exact hnn hl.symm
  clear hcase hcase'
  go_enter Tryz.func84,Tryz.ntmps84
  go_wp2
  go_ret
  exact ⟨by rw [HF.out];rfl,0,rfl⟩
 subst hnn
 have hne:((n:Int) != (n:Int))=false:=by simp
 by_cases h0:n=0
 ·subst h0
  have HT:Hid (dd=true):=by
   rw [Hid,HD.out,decide_eq_true_iff,List.length_eq_zero_iff.1 hl,List.length_eq_zero_iff.1 hl']
  clear hcase hcase' hl hl'
  go_enter Tryz.func84,Tryz.ntmps84
  go_wp2
  refine wp_loop_rounds 1 ?_
  rw [rounds_succ]
  go_wp2
  go_ret
  exact ⟨by rw [HT.out];rfl,0,rfl⟩
 rcases hcase with h0' | ⟨b,off,rfl,hblt,hcell⟩
 ·exact absurd h0' h0
 rcases hcase' with h0' | ⟨b',off',rfl,hblt',hcell'⟩
 ·exact absurd h0' h0
 have HL:Hid (xs.length=n∧ys.length=n):=⟨hl,hl'⟩
 clear hl hl'
 go_enter Tryz.func84,Tryz.ntmps84
 go_wp2
 go_loopw [5] (fun si wr=>∃ k d:Nat,k≤n∧si=.int .i64 k∧Hid (∀ i,i<k→xs.getD i 0=ys.getD i 0)∧wr=w.drewN d) (fun si _=>n - (intOf si).toNat)
 case atStart=>exact ⟨0,0,by omega,rfl,fun i hi=>by omega,rfl⟩
 case round =>
  obtain ⟨k,d,hk,rfl,hH,rfl⟩:=hrel
  by_cases hlt:k<n
  ·have hc:=hcell k hlt
   have hc':=hcell' k hlt
   have hlt':(k:Int)<(n:Int):=by omega
   clear hcell hcell'
   by_cases hx:xs.getD k 0=ys.getD k 0
   ·have hH2:Hid (∀ i,i<k+1→xs.getD i 0=ys.getD i 0):=fun i hi=>by
     by_cases e:i=k
     ·subst e;exact hx
     exact hH.out i (by omega)
    rw [← hx] at hc'
    clear hx hH
    generalize xs.getD k 0=x at hc hc'
    have hxx:(x != x)=false:=by simp
    go_wp2
    go_quiet (fail)
    go_wp2
    go_roundw
    case rel=>exact ⟨k+1,_,by omega,by go_num,hH2,rfl⟩
    case measure=>simp [intOf];omega
   have HF:Hid (dd=false):=by
    rw [Hid,HD.out,decide_eq_false_iff_not]
    intro e
    rw [e] at hx
    exact hx rfl
   have hxx:(xs.getD k 0 != ys.getD k 0)=true:=by simpa using hx
   clear hx hH
   generalize xs.getD k 0=x at hc hxx
   generalize ys.getD k 0=y at hc' hxx
   go_wp2
   go_quiet (fail)
   go_wp2
   go_ret
   exact ⟨by rw [HF.out];rfl,d+nq,by simp [World.drewN];omega⟩
  have HT:Hid (dd=true):=by
   rw [Hid,HD.out,decide_eq_true_iff]
   have hL:=HL.out
   exact Kg (by omega) (fun i hi=>hH.out i (by omega))
  clear hcell hcell' hH
  go_wp2
  go_ret
  exact ⟨by rw [HT.out];rfl,d,rfl⟩
end Go.Proofs.YtmhlokahmblboaaGreatDoor
