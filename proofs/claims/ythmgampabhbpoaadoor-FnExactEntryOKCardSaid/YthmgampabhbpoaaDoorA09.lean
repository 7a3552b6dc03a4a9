/-
  Joined: EqInts, Vm1.
-/
import Derived.ChangeSlices
import Derived.Lib.SmallJoins
import Derived.Test.YthmgampabhbpoaaDoorA01
import Derived.Test.YthmgampabhbpoaaDoorA05

namespace Go.Proofs.YthmgampabhbpoaaDoor
set_option maxRecDepth 100000
set_option maxHeartbeats 16000000
open Go.RowKit

theorem eqIntS_same (a a':Option Addr) (len cap cap':Nat) (zs:List Int) (w:World) (h:Ints .i64 w a len cap zs) (h':Ints .i64 w a' len cap' zs) :
  Calls Tryd.prog 47 #[.slice a len cap,.slice a' len cap'] w fun e w'=>e=.returned (.bool true)∧∃ d,w'=w.drewN d:=by
 obtain ⟨hl,hlc,hcm,hcase⟩:=h
 obtain ⟨_,hlc',hcm',hcase'⟩:=h'
 unfold maxLen at hcm hcm'
 have hne:((len:Int) != (len:Int))=false:=by simp
 by_cases h0:len=0
 ·subst h0
  go_enter Tryd.func47,Tryd.ntmps47
  go_wp2
  refine wp_loop_rounds 1 ?_
  rw [rounds_succ]
  go_wp2
  go_ret
  exact ⟨rfl,0,rfl⟩
 ·rcases hcase with h0' | ⟨b,off,rfl,hblt,hcell⟩
  ·exact absurd h0' h0
  rcases hcase' with h0' | ⟨b',off',rfl,hblt',hcell'⟩
  ·exact absurd h0' h0
  go_enter Tryd.func47,Tryd.ntmps47
  go_wp2
  go_loopw [5] (fun si wr=>∃ k d:Nat,k≤len∧si=.int .i64 k∧wr=w.drewN d) (fun si _=>len - (intOf si).toNat)
  case atStart=>exact ⟨0,0,by omega,rfl,rfl⟩
  case round =>
   obtain ⟨k,d,hk,rfl,rfl⟩:=hrel
   by_cases hlt:k<len
   ·have hc:=hcell k hlt
    have hc':=hcell' k hlt
    have hlt':(k:Int)<(len:Int):=by omega
    generalize zs.getD k 0=x at hc hc'
    clear hcell hcell'
    go_wp2
    go_quiet (fail)
    go_wp2
    go_roundw
    case rel=>exact ⟨k+1,_,by omega,by go_num,rfl⟩
    case measure=>simp [intOf];omega
   ·go_wp2
    go_ret
    exact ⟨rfl,d,rfl⟩


theorem szIntS_less (a:Option Addr) (len cap:Nat) (left:Int) (w:World) (hl:len≤maxLen) (h0:0≤left) (h1:left≤2 ^ 20) :
  Calls Tryd.prog 35 #[.slice a len cap,.int .i64 left] w fun e w'=>e=.returned (.int .i64 (less left len))∧w=w':=by
 unfold maxLen at hl
 unfold less
 go_enter Tryd.func35,Tryd.ntmps35
 by_cases h:left - len<0
 ·rw [if_pos h]
  go_wp2
  go_ret
  exact ⟨rfl,rfl⟩
 ·rw [if_neg h]
  go_wp2
  go_ret
  exact ⟨rfl,rfl⟩
theorem szIntS_neg (a:Option Addr) (len cap:Nat) (left:Int) (w:World) (hl:len≤maxLen) (h0:0≤left) (h1:left≤2 ^ 20) (h:left - len<0) :
  Calls Tryd.prog 35 #[.slice a len cap,.int .i64 left] w fun e w'=>e=.returned (.int .i64 (-1))∧w=w':=by
 have:=szIntS_less a len cap left w hl h0 h1
 unfold less at this
 rwa [if_pos h] at this
theorem szIntS_pos (a:Option Addr) (len cap:Nat) (left:Int) (w:World) (hl:len≤maxLen) (h0:0≤left) (h1:left≤2 ^ 20) (h:0≤left - len) :
  Calls Tryd.prog 35 #[.slice a len cap,.int .i64 left] w fun e w'=>e=.returned (.int .i64 (left - len))∧w=w':=by
 have:=szIntS_less a len cap left w hl h0 h1
 unfold less at this
 rwa [if_neg (by omega)] at this

end Go.Proofs.YthmgampabhbpoaaDoor
