/-
  Joined: Mach0, UnframeS, FramesPlain.
-/
import Derived.Lib.AppendStr
import Derived.Deep.RegionWith
import Derived.Test.YtdopgkbegjfhjaaGreatDoorR21

namespace Go.Proofs.YtdopgkbegjfhjaaGreatDoor
set_option maxRecDepth 100000
set_option maxHeartbeats 16000000
open Go.RowKit

def codeM (rows:List (List I3)) (k:Nat):List I3:=rows.getD k []
section
variable (c0 c1 c2 : Value) (m : V4)
end

section
variable (c0 c1 c2 : Value) (m : V4) (h : shapeOk m = true)
include h
end


theorem l01Open_any (s:ByteArray) (w:World) (hs:s.size≤65536) :
  Calls Tryz.prog 82 #[.string s] w fun e w'=>Unframed s e∧Below w.heap.size w w':=by
 go_enter Tryz.func82,Tryz.ntmps82
 go_wp2_with fail
 refine (l01Take_any s _ (by omega)).mono ?_
 rintro e w1 ⟨hk,rfl⟩
 rcases hk with ⟨n,k,hn,rfl⟩ | ⟨hn,rfl⟩
 ·have hN:Hid (Num s 0 n k):=hn
  have hk15:k≤5:=hn.1.2.1
  have hk1':1≤k:=hn.1.1
  have hk00:((k:Int) == 0)=false:=by simp;omega
  have hnle:n≤999999999:=hn.2.2.2
  clear hn
  by_cases hc:n≤60000∧k+2+n≤s.size
  ·obtain ⟨h6,hz⟩:=hc
   have hF:Hid (Framed s n k):=⟨hN.out,h6,hz⟩
   have hk0:k<s.size:=by omega
   have hk1:k+1<s.size:=by omega
   have hi0:(k:Int)<(s.size:Int):=by omega
   have hi1:(k:Int)+1<(s.size:Int):=by omega
   have hb0:(s[k]'hk0).toNat<256:=(s[k]'hk0).toNat_lt
   have hb2:(s[k+1]'hk1).toNat<256:=(s[k+1]'hk1).toNat_lt
   have hsm:Hid (sumAt s k=((s[k]'hk0).toNat:Int)*256+((s[k+1]'hk1).toNat:Int)):=by
    rw [Hid,bt_get,bt_get];rfl
   have hq1:IntKind.i64.wrap ((s[k]'hk0).toNat:Int)=((s[k]'hk0).toNat:Int):=IntWalk.i64_in _ ⟨by omega,by omega⟩
   have hq2:IntKind.i64.wrap (((s[k]'hk0).toNat:Int)*256)=((s[k]'hk0).toNat:Int)*256:=IntWalk.i64_in _ ⟨by omega,by omega⟩
   have hq3:IntKind.i64.wrap ((k:Int)+1)=(k:Int)+1:=IntWalk.i64_in _ ⟨by omega,by omega⟩
   have hq4:IntKind.i64.wrap ((s[k+1]'hk1).toNat:Int)=((s[k+1]'hk1).toNat:Int):=IntWalk.i64_in _ ⟨by omega,by omega⟩
   have hq5:IntKind.i64.wrap (((s[k]'hk0).toNat:Int)*256+((s[k+1]'hk1).toNat:Int))=((s[k]'hk0).toNat:Int)*256+((s[k+1]'hk1).toNat:Int):=IntWalk.i64_in _ ⟨by omega,by omega⟩
   have hix:∀ W:World,(Instr.index 9 (.string s) (.int .i64 ((k:Int)+1))).run Tryz.prog W=.ok (.int .u8 ((s[k+1]'hk1).toNat:Int)) W:=fun W=>by
    rw [run_index_string (P:=Tryz.prog) W 9 s .i64 ((k:Int)+1) Tryz.underlying9]
    have e1:((k:Int)+1).toNat=k+1:=by omega
    have e2:(0:Int)≤(k:Int)+1∧(k:Int)+1<(s.size:Int):=by omega
    simp [e1,e2]
   have hfs:(s.extract (k+2) (k+2+n)).size≤65536:=by simp;omega
   go_wp2
   obtain ⟨f,hf⟩:∃ f,f=s.extract (k+2) (k+2+n):=⟨_,rfl⟩
   have HF:Hid (frameText s n k=f):=by rw [Hid,hf];rfl
   rw [← hf] at hfs
   rw [← hf]
   clear hf
   go_quiet ((go_at_call 113;exact Calls.quiet_of_same ((l01Sum_any f _ (by omega)).mono fun e w' h=>⟨h.1,h.2.symm⟩)))
   clear hq1 hq2 hq3 hq4 hq5 hix
   rw [← hsm.out]
   obtain ⟨x,hx0⟩:∃ x,x=sumAt s k:=⟨_,rfl⟩
   have HX:Hid (x0 s k x):=hx0
   rw [← hx0]
   clear hx0 hsm hN
   by_cases heq:x=sumTo f f.size
   ·have hne:(x != sumTo f f.size)=false:=by simp [heq]
    have HE:Hid (x=sumTo f f.size):=heq
    clear heq
    go_wp2
    go_ret3
    refine ⟨.inl ⟨n,k,hF.out,?_,?_⟩,below_drewN (Below.refl _ _) nq⟩
    ·rw [HF.out,← HE.out];exact HX.out.symm
    ·rw [HF.out];rfl
   ·have hne:(x != sumTo f f.size)=true:=by simpa using heq
    have HE:Hid (¬ x=sumTo f f.size):=heq
    clear heq
    go_wp2
    go_ret3
    refine ⟨.inr (.inl ⟨n,k,hF.out,?_,rfl⟩),below_drewN (Below.refl _ _) nq⟩
    rw [HF.out]
    intro h
    exact HE.out (HX.out.trans h)
  ·have hNF:Hid (NoFrame s):=noFrame_of_num hN.out hc
   by_cases h6:n≤60000
   ·have hz:(s.size:Int)<(k:Int)+2+(n:Int):=by
     have:¬ k+2+n≤s.size:=fun h=>hc ⟨h6,h⟩
     omega
    clear hc hN
    go_wp2
    go_ret3
    exact ⟨.inr (.inr ⟨hNF.out,rfl⟩),Below.refl _ _⟩
   ·clear hc hN
    go_wp2
    go_ret3
    exact ⟨.inr (.inr ⟨hNF.out,rfl⟩),Below.refl _ _⟩
 ·have hNF:Hid (NoFrame s):=noFrame_of_noNum hn
  clear hn
  go_wp2
  go_ret3
  exact ⟨.inr (.inr ⟨hNF.out,rfl⟩),Below.refl _ _⟩


theorem unframed_good {s:ByteArray} {n k:Nat} {e:Ending} (h:Unframed s e) (hf:Framed s n k) (hs:sumAt s k=sumTo (frameText s n k) (frameText s n k).size):e=.returned (.tuple #[.string (frameText s n k),.int .i64 ((k+2+n:Nat):Int),.int .i64 0]):=
 h.same (.inl ⟨n,k,hf,hs,rfl⟩)
end Go.Proofs.YtdopgkbegjfhjaaGreatDoor
