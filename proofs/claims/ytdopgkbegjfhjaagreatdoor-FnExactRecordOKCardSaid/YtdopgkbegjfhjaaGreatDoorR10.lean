/-
  Joined: Read2, TakeWalk.
-/
import Derived.Test.YtdopgkbegjfhjaaGreatDoorR09

namespace Go.Proofs.YtdopgkbegjfhjaaGreatDoor
set_option maxRecDepth 100000
set_option maxHeartbeats 16000000
open Go.RowKit

theorem sub_trans {a b c:World} (h:Below a.heap.size a b) (k:Below b.heap.size b c):Below a.heap.size a c:=h.trans (k.mono h.size)

theorem faultCode_nil (w:World):Calls Tryz.prog 126 #[.nilIface] w fun e w'=>e=.returned (.int .i64 0)∧Below w.heap.size w w':=by
 go_enter Tryz.func126,Tryz.ntmps126
 go_wp2_with (go_at_call 151;refine (as_nil _ _).mono ?_;rintro e w1 ⟨rfl,rfl⟩)
 go_ret
 exact ⟨rfl,(Below.refl _ _).alloc (Nat.le_refl _) _⟩

theorem faultCode_hit (x y:Int) (w:World) (hE:ErrType w):Calls Tryz.prog 126 #[.iface 189 (.agg #[.int .i64 x,.int .i64 y])] w fun e w'=>e=.returned (.int .i64 x)∧Below w.heap.size w w':=by
 have hb0:Below w.heap.size w (w.alloc (.cells #[.int .i64 0,.int .i64 0] 189)):=(Below.refl _ _).alloc (Nat.le_refl _) _
 have hE0:=hE.below hb0
 have ht:=heap_alloc_new w (.cells #[.int .i64 0,.int .i64 0] 189)
 go_enter Tryz.func126,Tryz.ntmps126
 go_wp2_with fail
 refine (as_hit _ x y _ _ _ hE0 ht rfl).mono ?_
 rintro e w1 ⟨rfl,hw1⟩
 have hb1:Below w.heap.size w w1:=by
  rw [hw1]
  refine below_setRow ?_ (Nat.le_refl _) _
  exact ((((hb0.alloc (by simp) _).alloc (by simp;omega) _).alloc (by simp;omega) _).alloc (by simp;omega) _)
 have hc:w1.cell? ⟨w.heap.size,0,none⟩=some (.int .i64 x):=by
  rw [hw1]
  have hh:=setRow_heap (((((w.alloc (.cells #[.int .i64 0,.int .i64 0] 189)).alloc (.cells #[.pointer (some ⟨w.heap.size,0,none⟩)] 191)).alloc (.cells #[.pointer (some ⟨5,191,none⟩),.pointer (some ⟨w.heap.size+1,0,none⟩),.int .u64 150] 202)).alloc (.cells #[.pointer (some ⟨5,191,none⟩),.pointer (some ⟨w.heap.size+1,0,none⟩),.int .u64 150] 202)).alloc (.cells #[.int .i64 x,.int .i64 y] 189)) w.heap.size #[.int .i64 0,.int .i64 0] #[.int .i64 x,.int .i64 y] 189 (0,0)
   (by rw [Below.heap_alloc _ _ _ (by simp;omega),Below.heap_alloc _ _ _ (by simp;omega),Below.heap_alloc _ _ _ (by simp;omega),Below.heap_alloc _ _ _ (by simp)];exact ht)
  rw [cell_of_row _ _ 0 _ _ _ (by simpa using hh)]
  rfl
 clear hw1 ht hE0 hb0 hE
 go_wp2
 go_ret
 exact ⟨rfl,hb1⟩

theorem readNumber_any (s:ByteArray) (p:Nat) (w:World) (hs:s.size≤65536) (hp:p≤s.size) :
  Calls Tryz.prog 150 #[.string s,.int .i64 p] w fun e w'=>((∃ n k:Nat,Num s p n k∧e=.returned (.tuple #[.int .i64 n,.int .i64 ((p+k:Nat):Int),.nilIface]))∨(NoNum s p∧∃ y:Int,e=.returned (.tuple #[.int .i64 0,.int .i64 0,.iface 189 (.agg #[.int .i64 3,.int .i64 y])])))∧Below w.heap.size w w':=by
 go_enter Tryz.func150,Tryz.ntmps150
 go_wp2_with fail
 refine (numberSize_any _ _ (by simp;omega)).mono ?_
 rintro e w1 ⟨k,rfl,hk,hb1⟩
 rcases hk with hk | ⟨rfl,hk⟩
 ·have hI:=isEnd_cut hp hk
  clear hk
  obtain ⟨k1,k5,kp,k4,kb⟩:=id hI
  have hk0:((k:Int) == 0)=false:=by simp;omega
  obtain ⟨l,hl⟩:∃ l:Nat,l=p+k - 1:=⟨_,rfl⟩
  have hlt:l<s.size:=by omega
  have hg:=bt_get s l hlt
  have hle:p+k=l+1:=by omega
  have hval:=hv_val s p k k1 k5
  by_cases hz:1<k∧bt s l=0
  ·obtain ⟨hk2,hz0⟩:=hz
   have hN:NoNum s p:=noNum_zero hI hk2 (by rw [← hl];exact hz0)
   have hzz:(s[l]'hlt).toNat=0:=by rw [hg];exact hz0
   have hadd:(p:Int)+(k:Int) - 1=(l:Int):=by omega
   clear hg hval k4 kb hI hz0 hl
   go_wp2
   go_ret3
   exact ⟨.inr ⟨hN,_,rfl⟩,hb1⟩
  ·have hz1:1<k→((((s[l]'hlt).toNat:Nat):Int) == 0)=false:=by
    intro h
    rw [hg]
    simp
    intro h0
    exact hz ⟨h,h0⟩
   have hadd:(p:Int)+(k:Int) - 1=(l:Int):=by omega
   have HG:Hid (∀ q (hq:q<s.size),(s[q]'hq).toNat=bt s q):=fun q hq=>bt_get s q hq
   have HV:Hid (hv s p k k=val s p k):=hval
   have hnz:¬ (1<k∧bt s (p+k - 1)=0):=by rw [← hl];exact hz
   have HN:Hid (¬ (1<k∧bt s (p+k - 1)=0)):=hnz
   have HL:Hid (l=p+k - 1):=hl
   clear hg hval k4 kb hz hl hnz
   by_cases hk2:1<k
   all_goals
    first
     | (have hz2:=hz1 hk2;clear hz1)
     | clear hz1
    go_wp2
    go_loop [9,10] (fun sn si=>∃ j:Nat,j≤k∧si=.int .i64 ((l:Int) - (j:Int))∧sn=.int .i64 (hv s p k j)) (fun _ si=>(intOf si - (p:Int)+1).toNat)
    case atStart=>exact ⟨0,by omega,by go_num,rfl⟩
    case round =>
     obtain ⟨j,hj,rfl,rfl⟩:=hrel
     by_cases hjk:j<k
     ·obtain ⟨q,hq⟩:∃ q:Nat,(l:Int) - (j:Int)=(q:Int):=⟨l - j,by omega⟩
      have hqs:q<s.size:=by omega
      have hpq:p≤q:=by omega
      have hh:=hv_lt s p k j (by omega)
      have hbq:=bt_lt s q
      rw [← HG.out q hqs] at hbq
      have HS:Hid (hv s p k (j+1)=hv s p k j*128+(s[q]'hqs).toNat % 128):=by
       rw [Hid,HG.out q hqs]
       have e:p+k - 1 - j=q:=by omega
       simp only [hv,e]
      rw [hq]
      have HQ:Hid ((l:Int) - (j:Int)=(q:Int)):=hq
      clear hq
      generalize hv s p k j=x at hh HS
      go_wp2
      go_round
      case rel=>exact ⟨j+1,by omega,by have:=HQ.out;go_num,by rw [HS.out];go_num⟩
      case measure=>simp [intOf];omega
     ·obtain rfl:j=k:=by omega
      have hvl:=val_lt s p j
      rw [HV.out]
      have hex:¬ (p:Int)≤(l:Int) - (j:Int):=by omega
      by_cases hok:val s p j≤999999999
      ·have hNum:Num s p (val s p j) j:=⟨hI,HN.out,rfl,hok⟩
       clear hI
       generalize val s p j=v at *
       go_wp2_with (go_at_call 128;refine (numberOK_yes _ _ (by omega)).mono ?_;rintro e w' ⟨rfl,rfl⟩)
       go_ret3
       exact ⟨.inl ⟨v,j,hNum,by rw [hle];rfl⟩,hb1⟩
      ·have hN:NoNum s p:=noNum_great hI (by omega)
       clear hI
       generalize val s p j=v at *
       go_wp2_with (go_at_call 128;refine (numberOK_no _ _ (by omega)).mono ?_;rintro e w' ⟨rfl,rfl⟩)
       go_ret3
       exact ⟨.inr ⟨hN,_,rfl⟩,hb1⟩
 ·have hN:NoNum s p:=noNum_of_noEnd (noEnd_cut hk)
  go_wp2
  go_ret3
  exact ⟨.inr ⟨hN,_,rfl⟩,hb1⟩


def pw:Nat→Int
 | 0=>1
 | 1=>128
 | 2=>16384
 | 3=>2097152
 | 4=>268435456
 | _=>34359738368
theorem val_lt4 (s:ByteArray) (p:Nat):∀ j,j≤4→val s p j<268435456
 | 0,_=>by simp [val]
 | 1,_=>by simp only [val];omega
 | 2,_=>by simp only [val];omega
 | 3,_=>by simp only [val];omega
 | 4,_=>by simp only [val];omega
 | j+5,h=>by omega
theorem val_step (s:ByteArray):∀ j,j≤4→((val s 0 (j+1):Nat):Int)=(val s 0 j:Int)+(bt s j:Int) % 128*pw j
 | 0,_=>by simp only [val,pw,Nat.zero_add];omega
 | 1,_=>by simp only [val,pw,Nat.zero_add];omega
 | 2,_=>by simp only [val,pw,Nat.zero_add];omega
 | 3,_=>by simp only [val,pw,Nat.zero_add];omega
 | 4,_=>by simp only [val,pw,Nat.zero_add];omega
 | j+5,h=>by omega

theorem pw_le:∀ j,j≤4→1≤pw j∧pw j≤268435456
 | 0,_=>by simp [pw]
 | 1,_=>by simp [pw]
 | 2,_=>by simp [pw]
 | 3,_=>by simp [pw]
 | 4,_=>by simp [pw]
 | j+5,h=>by omega
theorem pw_succ:∀ j,j≤4→pw (j+1)=pw j*128
 | 0,_=>rfl
 | 1,_=>rfl
 | 2,_=>rfl
 | 3,_=>rfl
 | 4,_=>rfl
 | j+5,h=>by omega
theorem prod_le {b:Nat} {u:Int} (h1:1≤u) (h2:u≤268435456):0≤(b:Int) % 128*u∧(b:Int) % 128*u≤34091302912:=by
 have h0:0≤(b:Int) % 128:=by omega
 have h7:(b:Int) % 128≤127:=by omega
 refine ⟨Int.mul_nonneg h0 (by omega),?_⟩
 have:=Int.mul_le_mul h7 h2 (by omega) (by omega)
 omega

theorem num_at {s:ByteArray} {j:Nat} (hE:IsEnd s 0 (j+1)) (hz:¬ (0<j∧bt s j=0)) (hv:val s 0 (j+1)≤999999999):Num s 0 (val s 0 (j+1)) (j+1):=
 ⟨hE,by rw [show 0+(j+1) - 1=j by omega];intro h;exact hz ⟨by omega,h.2⟩,rfl,hv⟩
theorem noNum_zero' {s:ByteArray} {j:Nat} (h:IsEnd s 0 (j+1)) (hk:0<j) (hb:bt s j=0):NoNum s 0:=noNum_zero h (by omega) (by rw [show 0+(j+1) - 1=j by omega];exact hb)

theorem l01Take_any (s:ByteArray) (w:World) (hs:s.size≤1048576) :
  Calls Tryz.prog 106 #[.string s] w fun e w'=>((∃ n k:Nat,Num s 0 n k∧e=.returned (.tuple #[.int .i64 n,.int .i64 k]))∨(NoNum s 0∧e=.returned (.tuple #[.int .i64 0,.int .i64 0])))∧w=w':=by
 go_enter Tryz.func106,Tryz.ntmps106
 go_wp2
 go_loop [4,5,6] (fun sn su si=>∃ j:Nat,j≤5∧j≤s.size∧si=.int .i64 j∧sn=.int .i64 (val s 0 j)∧su=.int .i64 (pw j)∧highTo s 0 j) (fun _ _ si=>5 - (intOf si).toNat)
 case atStart=>exact ⟨0,by omega,by omega,rfl,rfl,rfl,highTo_zero s 0⟩
 case round =>
  obtain ⟨j,hj5,hjs,rfl,rfl,rfl,hh⟩:=hrel
  by_cases hlt:j<s.size
  ·by_cases hj:j<5
   ·have hb:=bt_lt s j
    have hg:=bt_get s j hlt
    have hst:=val_step s j (by omega)
    have hx:=val_lt4 s 0 j (by omega)
    have hy:=val_lt s 0 (j+1)
    have hand:=and127 _ (by rw [hg];exact hb:(s[j]'hlt).toNat<256)
    have hEnd:bt s j<128→IsEnd s 0 (j+1):=fun h=>isEnd_at hh (by omega) (by omega) (by simpa using h)
    have hHi:128≤bt s j→highTo s 0 (j+1):=fun h=>highTo_succ hh (by simpa using h)
    have hNum:bt s j<128→¬ (0<j∧bt s j=0)→val s 0 (j+1)≤999999999→Num s 0 (val s 0 (j+1)) (j+1):=fun h=>num_at (hEnd h)
    have hNo1:bt s j<128→0<j→bt s j=0→NoNum s 0:=fun h=>noNum_zero' (hEnd h)
    have hNo2:bt s j<128→999999999<val s 0 (j+1)→NoNum s 0:=fun h=>noNum_great (hEnd h)
    have hb':(s[j]'hlt).toNat<256:=by rw [hg];exact hb
    have hpw:=pw_le j (by omega)
    have hpn:=pw_succ j (by omega)
    have hdd:=prod_le (b:=bt s j) hpw.1 hpw.2
    rw [← hg] at hst hEnd hHi hNum hNo1 hNo2 hdd
    generalize hye:val s 0 (j+1)=y at *
    have HYE:Hid (val s 0 (j+1)=y):=hye
    clear hye
    generalize val s 0 j=x at *
    generalize hue:pw (j+1)=u' at *
    have HUE:Hid (pw (j+1)=u'):=hue
    clear hue
    generalize pw j=u at *
    obtain ⟨d,hd⟩:∃ d:Int,d=((s[j]'hlt).toNat:Int) % 128*u:=⟨_,rfl⟩
    rw [← hd] at hst hdd
    have hw:wrap64 (((s[j]'hlt).toNat:Int) % 128*u)=d:=by rw [← hd];exact IntWalk.wrap64_in _ ⟨by omega,by omega⟩
    have hyd:Hid ((y:Int)=(x:Int)+d):=hst
    have HU:Hid (u'=u*128):=hpn
    have hy1:(x:Int)+d≤40000000000:=by omega
    clear hst hd hb hg hpn
    by_cases hA:128≤(s[j]'hlt).toNat
    ·have hto:=hHi hA
     clear hHi hNum hNo1 hNo2 hEnd hh
     go_wp2
     go_round
     case rel=>exact ⟨j+1,by omega,by omega,by go_num,by rw [HYE.out,hyd.out],by rw [HUE.out,HU.out],hto⟩
     case measure=>simp [intOf];omega
    ·have hA':(s[j]'hlt).toNat<128:=by omega
     have hYX:=hyd.out
     by_cases hB:y≤999999999
     ·have hB':(x:Int)+d≤999999999:=by omega
      by_cases hj0:j=0
      ·have hN:Hid (Num s 0 y (j+1)):=hNum hA' (by omega) hB
       clear hHi hNum hNo1 hNo2 hEnd hh hYX
       subst hj0
       go_wp2
       go_ret2
       exact ⟨.inl ⟨y,0+1,hN.out,by rw [hyd.out];rfl⟩,rfl⟩
      ·have hj0':(0:Int)<(j:Int):=by omega
       by_cases hC:(s[j]'hlt).toNat=0
       ·have hN:Hid (NoNum s 0):=hNo1 hA' (by omega) hC
        have hC':(((s[j]'hlt).toNat:Int) == 0)=true:=by simp [hC]
        have HC:Hid ((s[j]'hlt).toNat=0):=hC
        clear hHi hNum hNo1 hNo2 hEnd hh hYX hC
        go_wp2
        go_ret2
        exact ⟨.inr ⟨hN.out,rfl⟩,rfl⟩
       ·have hN:Hid (Num s 0 y (j+1)):=hNum hA' (by omega) hB
        have hC':(((s[j]'hlt).toNat:Int) == 0)=false:=by simp;omega
        clear hHi hNum hNo1 hNo2 hEnd hh hYX hC
        go_wp2
        go_ret2
        exact ⟨.inl ⟨y,j+1,hN.out,by rw [hyd.out];rfl⟩,rfl⟩
     ·have hN:Hid (NoNum s 0):=hNo2 hA' (by omega)
      have hB':999999999<(x:Int)+d:=by omega
      clear hHi hNum hNo1 hNo2 hEnd hh hYX
      go_wp2
      go_ret2
      exact ⟨.inr ⟨hN.out,rfl⟩,rfl⟩
   ·have hN:Hid (NoNum s 0):=noNum_of_noEnd (noEnd_of hh (by omega))
    obtain rfl:j=5:=by omega
    clear hh
    go_wp2
    go_ret2
    exact ⟨.inr ⟨hN.out,rfl⟩,rfl⟩
  ·have hN:Hid (NoNum s 0):=noNum_of_noEnd (noEnd_of hh (by omega))
   clear hh
   go_wp2
   go_ret2
   exact ⟨.inr ⟨hN.out,rfl⟩,rfl⟩
end Go.Proofs.YtdopgkbegjfhjaaGreatDoor
