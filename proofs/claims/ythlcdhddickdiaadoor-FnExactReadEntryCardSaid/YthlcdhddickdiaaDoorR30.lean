/-
  Joined: TakeWalk.
-/
import Derived.Test.YthlcdhddickdiaaDoorR28

namespace Go.Proofs.YthlcdhddickdiaaDoor
set_option maxRecDepth 100000
set_option maxHeartbeats 16000000
open Go.RowKit

def pw:Nat→Int
 | 0=>1
 | 1=>128
 | 2=>16384
 | 3=>2097152
 | 4=>268435456
 | _=>34359738368
theorem val_lt4 (s:ByteArray) (p:Nat):∀ j,j≤4→val s p j<268435456
 | 0,_=>by simp [val]
 | 1,_=>by simp only [val];omega
 | 2,_=>by simp only [val];omega
 | 3,_=>by simp only [val];omega
 | 4,_=>by simp only [val];omega
 | j+5,h=>by omega
theorem val_step (s:ByteArray):∀ j,j≤4→((val s 0 (j+1):Nat):Int)=(val s 0 j:Int)+(bt s j:Int) % 128*pw j
 | 0,_=>by simp only [val,pw,Nat.zero_add];omega
 | 1,_=>by simp only [val,pw,Nat.zero_add];omega
 | 2,_=>by simp only [val,pw,Nat.zero_add];omega
 | 3,_=>by simp only [val,pw,Nat.zero_add];omega
 | 4,_=>by simp only [val,pw,Nat.zero_add];omega
 | j+5,h=>by omega

theorem pw_le:∀ j,j≤4→1≤pw j∧pw j≤268435456
 | 0,_=>by simp [pw]
 | 1,_=>by simp [pw]
 | 2,_=>by simp [pw]
 | 3,_=>by simp [pw]
 | 4,_=>by simp [pw]
 | j+5,h=>by omega
theorem pw_succ:∀ j,j≤4→pw (j+1)=pw j*128
 | 0,_=>rfl
 | 1,_=>rfl
 | 2,_=>rfl
 | 3,_=>rfl
 | 4,_=>rfl
 | j+5,h=>by omega
theorem prod_le {b:Nat} {u:Int} (h1:1≤u) (h2:u≤268435456):0≤(b:Int) % 128*u∧(b:Int) % 128*u≤34091302912:=by
 have h0:0≤(b:Int) % 128:=by omega
 have h7:(b:Int) % 128≤127:=by omega
 refine ⟨Int.mul_nonneg h0 (by omega),?_⟩
 have:=Int.mul_le_mul h7 h2 (by omega) (by omega)
 omega

theorem num_at {s:ByteArray} {j:Nat} (hE:IsEnd s 0 (j+1)) (hz:¬ (0<j∧bt s j=0)) (hv:val s 0 (j+1)≤999999999):Num s 0 (val s 0 (j+1)) (j+1):=
 ⟨hE,by rw [show 0+(j+1) - 1=j by omega];intro h;exact hz ⟨by omega,h.2⟩,rfl,hv⟩
theorem noNum_zero' {s:ByteArray} {j:Nat} (h:IsEnd s 0 (j+1)) (hk:0<j) (hb:bt s j=0):NoNum s 0:=noNum_zero h (by omega) (by rw [show 0+(j+1) - 1=j by omega];exact hb)

theorem l01Take_any (s:ByteArray) (w:World) (hs:s.size≤1048576) :
  Calls Tryd.prog 96 #[.string s] w fun e w'=>((∃ n k:Nat,Num s 0 n k∧e=.returned (.tuple #[.int .i64 n,.int .i64 k]))∨(NoNum s 0∧e=.returned (.tuple #[.int .i64 0,.int .i64 0])))∧w=w':=by
 go_enter Tryd.func96,Tryd.ntmps96
 go_wp2
 go_loop [4,5,6] (fun sn su si=>∃ j:Nat,j≤5∧j≤s.size∧si=.int .i64 j∧sn=.int .i64 (val s 0 j)∧su=.int .i64 (pw j)∧highTo s 0 j) (fun _ _ si=>5 - (intOf si).toNat)
 case atStart=>exact ⟨0,by omega,by omega,rfl,rfl,rfl,highTo_zero s 0⟩
 case round =>
  obtain ⟨j,hj5,hjs,rfl,rfl,rfl,hh⟩:=hrel
  by_cases hlt:j<s.size
  ·by_cases hj:j<5
   ·have hb:=bt_lt s j
    have hg:=bt_get s j hlt
    have hst:=val_step s j (by omega)
    have hx:=val_lt4 s 0 j (by omega)
    have hy:=val_lt s 0 (j+1)
    have hand:=and127 _ (by rw [hg];exact hb:(s[j]'hlt).toNat<256)
    have hEnd:bt s j<128→IsEnd s 0 (j+1):=fun h=>isEnd_at hh (by omega) (by omega) (by simpa using h)
    have hHi:128≤bt s j→highTo s 0 (j+1):=fun h=>highTo_succ hh (by simpa using h)
    have hNum:bt s j<128→¬ (0<j∧bt s j=0)→val s 0 (j+1)≤999999999→Num s 0 (val s 0 (j+1)) (j+1):=fun h=>num_at (hEnd h)
    have hNo1:bt s j<128→0<j→bt s j=0→NoNum s 0:=fun h=>noNum_zero' (hEnd h)
    have hNo2:bt s j<128→999999999<val s 0 (j+1)→NoNum s 0:=fun h=>noNum_great (hEnd h)
    have hb':(s[j]'hlt).toNat<256:=by rw [hg];exact hb
    have hpw:=pw_le j (by omega)
    have hpn:=pw_succ j (by omega)
    have hdd:=prod_le (b:=bt s j) hpw.1 hpw.2
    rw [← hg] at hst hEnd hHi hNum hNo1 hNo2 hdd
    generalize hye:val s 0 (j+1)=y at *
    have HYE:Hid (val s 0 (j+1)=y):=hye
    clear hye
    generalize val s 0 j=x at *
    generalize hue:pw (j+1)=u' at *
    have HUE:Hid (pw (j+1)=u'):=hue
    clear hue
    generalize pw j=u at *
    obtain ⟨d,hd⟩:∃ d:Int,d=((s[j]'hlt).toNat:Int) % 128*u:=⟨_,rfl⟩
    rw [← hd] at hst hdd
    have hw:wrap64 (((s[j]'hlt).toNat:Int) % 128*u)=d:=by rw [← hd];exact IntWalk.wrap64_in _ ⟨by omega,by omega⟩
    have hyd:Hid ((y:Int)=(x:Int)+d):=hst
    have HU:Hid (u'=u*128):=hpn
    have hy1:(x:Int)+d≤40000000000:=by omega
    clear hst hd hb hg hpn
    by_cases hA:128≤(s[j]'hlt).toNat
    ·have hto:=hHi hA
     clear hHi hNum hNo1 hNo2 hEnd hh
     go_wp2
     go_round
     case rel=>exact ⟨j+1,by omega,by omega,by go_num,by rw [HYE.out,hyd.out],by rw [HUE.out,HU.out],hto⟩
     case measure=>simp [intOf];omega
    ·have hA':(s[j]'hlt).toNat<128:=by omega
     have hYX:=hyd.out
     by_cases hB:y≤999999999
     ·have hB':(x:Int)+d≤999999999:=by omega
      by_cases hj0:j=0
      ·have hN:Hid (Num s 0 y (j+1)):=hNum hA' (by omega) hB
       clear hHi hNum hNo1 hNo2 hEnd hh hYX
       subst hj0
       go_wp2
       go_ret2
       exact ⟨.inl ⟨y,0+1,hN.out,by rw [hyd.out];rfl⟩,rfl⟩
      ·have hj0':(0:Int)<(j:Int):=by omega
       by_cases hC:(s[j]'hlt).toNat=0
       ·have hN:Hid (NoNum s 0):=hNo1 hA' (by omega) hC
        have hC':(((s[j]'hlt).toNat:Int) == 0)=true:=by simp [hC]
        have HC:Hid ((s[j]'hlt).toNat=0):=hC
        clear hHi hNum hNo1 hNo2 hEnd hh hYX hC
        go_wp2
        go_ret2
        exact ⟨.inr ⟨hN.out,rfl⟩,rfl⟩
       ·have hN:Hid (Num s 0 y (j+1)):=hNum hA' (by omega) hB
        have hC':(((s[j]'hlt).toNat:Int) == 0)=false:=by simp;omega
        clear hHi hNum hNo1 hNo2 hEnd hh hYX hC
        go_wp2
        go_ret2
        exact ⟨.inl ⟨y,j+1,hN.out,by rw [hyd.out];rfl⟩,rfl⟩
     ·have hN:Hid (NoNum s 0):=hNo2 hA' (by omega)
      have hB':999999999<(x:Int)+d:=by omega
      clear hHi hNum hNo1 hNo2 hEnd hh hYX
      go_wp2
      go_ret2
      exact ⟨.inr ⟨hN.out,rfl⟩,rfl⟩
   ·have hN:Hid (NoNum s 0):=noNum_of_noEnd (noEnd_of hh (by omega))
    obtain rfl:j=5:=by omega
    clear hh
    go_wp2
    go_ret2
    exact ⟨.inr ⟨hN.out,rfl⟩,rfl⟩
  ·have hN:Hid (NoNum s 0):=noNum_of_noEnd (noEnd_of hh (by omega))
   clear hh
   go_wp2
   go_ret2
   exact ⟨.inr ⟨hN.out,rfl⟩,rfl⟩
end Go.Proofs.YthlcdhddickdiaaDoor
