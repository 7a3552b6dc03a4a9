/-
  Joined: Read2.
-/
import Derived.Test.YthlcdhddickdiaaDoorR17
import Derived.Test.YthlcdhddickdiaaDoorR28

namespace Go.Proofs.YthlcdhddickdiaaDoor
set_option maxRecDepth 100000
set_option maxHeartbeats 16000000
open Go.RowKit

theorem sub_trans {a b c:World} (h:Below a.heap.size a b) (k:Below b.heap.size b c):Below a.heap.size a c:=h.trans (k.mono h.size)

theorem faultCode_nil (w:World):Calls Tryd.prog 72 #[.nilIface] w fun e w'=>e=.returned (.int .i64 0)∧Below w.heap.size w w':=by
 go_enter Tryd.func72,Tryd.ntmps72
 go_wp2_with (go_at_call 98;refine (as_nil _ _).mono ?_;rintro e w1 ⟨rfl,rfl⟩)
 go_ret
 exact ⟨rfl,(Below.refl _ _).alloc (Nat.le_refl _) _⟩

theorem faultCode_hit (x y:Int) (w:World) (hE:ErrType w):Calls Tryd.prog 72 #[.iface 136 (.agg #[.int .i64 x,.int .i64 y])] w fun e w'=>e=.returned (.int .i64 x)∧Below w.heap.size w w':=by
 have hb0:Below w.heap.size w (w.alloc (.cells #[.int .i64 0,.int .i64 0] 136)):=(Below.refl _ _).alloc (Nat.le_refl _) _
 have hE0:=hE.below hb0
 have ht:=heap_alloc_new w (.cells #[.int .i64 0,.int .i64 0] 136)
 go_enter Tryd.func72,Tryd.ntmps72
 go_wp2_with fail
 refine (as_hit _ x y _ _ _ hE0 ht rfl).mono ?_
 rintro e w1 ⟨rfl,hw1⟩
 have hb1:Below w.heap.size w w1:=by
  rw [hw1]
  refine below_setRow ?_ (Nat.le_refl _) _
  exact ((((hb0.alloc (by simp) _).alloc (by simp;omega) _).alloc (by simp;omega) _).alloc (by simp;omega) _)
 have hc:w1.cell? ⟨w.heap.size,0,none⟩=some (.int .i64 x):=by
  rw [hw1]
  have hh:=setRow_heap (((((w.alloc (.cells #[.int .i64 0,.int .i64 0] 136)).alloc (.cells #[.pointer (some ⟨w.heap.size,0,none⟩)] 138)).alloc (.cells #[.pointer (some ⟨3,138,none⟩),.pointer (some ⟨w.heap.size+1,0,none⟩),.int .u64 150] 153)).alloc (.cells #[.pointer (some ⟨3,138,none⟩),.pointer (some ⟨w.heap.size+1,0,none⟩),.int .u64 150] 153)).alloc (.cells #[.int .i64 x,.int .i64 y] 136)) w.heap.size #[.int .i64 0,.int .i64 0] #[.int .i64 x,.int .i64 y] 136 (0,0)
   (by rw [Below.heap_alloc _ _ _ (by simp;omega),Below.heap_alloc _ _ _ (by simp;omega),Below.heap_alloc _ _ _ (by simp;omega),Below.heap_alloc _ _ _ (by simp)];exact ht)
  rw [cell_of_row _ _ 0 _ _ _ (by simpa using hh)]
  rfl
 clear hw1 ht hE0 hb0 hE
 go_wp2
 go_ret
 exact ⟨rfl,hb1⟩

theorem readNumber_any (s:ByteArray) (p:Nat) (w:World) (hs:s.size≤65536) (hp:p≤s.size) :
  Calls Tryd.prog 97 #[.string s,.int .i64 p] w fun e w'=>((∃ n k:Nat,Num s p n k∧e=.returned (.tuple #[.int .i64 n,.int .i64 ((p+k:Nat):Int),.nilIface]))∨(NoNum s p∧∃ y:Int,e=.returned (.tuple #[.int .i64 0,.int .i64 0,.iface 136 (.agg #[.int .i64 3,.int .i64 y])])))∧Below w.heap.size w w':=by
 go_enter Tryd.func97,Tryd.ntmps97
 go_wp2_with fail
 refine (numberSize_any _ _ (by simp;omega)).mono ?_
 rintro e w1 ⟨k,rfl,hk,hb1⟩
 rcases hk with hk | ⟨rfl,hk⟩
 ·have hI:=isEnd_cut hp hk
  clear hk
  obtain ⟨k1,k5,kp,k4,kb⟩:=id hI
  have hk0:((k:Int) == 0)=false:=by simp;omega
  obtain ⟨l,hl⟩:∃ l:Nat,l=p+k - 1:=⟨_,rfl⟩
  have hlt:l<s.size:=by omega
  have hg:=bt_get s l hlt
  have hle:p+k=l+1:=by omega
  have hval:=hv_val s p k k1 k5
  by_cases hz:1<k∧bt s l=0
  ·obtain ⟨hk2,hz0⟩:=hz
   have hN:NoNum s p:=noNum_zero hI hk2 (by rw [← hl];exact hz0)
   have hzz:(s[l]'hlt).toNat=0:=by rw [hg];exact hz0
   have hadd:(p:Int)+(k:Int) - 1=(l:Int):=by omega
   clear hg hval k4 kb hI hz0 hl
   go_wp2
   go_ret3
   exact ⟨.inr ⟨hN,_,rfl⟩,hb1⟩
  ·have hz1:1<k→((((s[l]'hlt).toNat:Nat):Int) == 0)=false:=by
    intro h
    rw [hg]
    simp
    intro h0
    exact hz ⟨h,h0⟩
   have hadd:(p:Int)+(k:Int) - 1=(l:Int):=by omega
   have HG:Hid (∀ q (hq:q<s.size),(s[q]'hq).toNat=bt s q):=fun q hq=>bt_get s q hq
   have HV:Hid (hv s p k k=val s p k):=hval
   have hnz:¬ (1<k∧bt s (p+k - 1)=0):=by rw [← hl];exact hz
   have HN:Hid (¬ (1<k∧bt s (p+k - 1)=0)):=hnz
   have HL:Hid (l=p+k - 1):=hl
   clear hg hval k4 kb hz hl hnz
   by_cases hk2:1<k
   all_goals
    first
     | (have hz2:=hz1 hk2;clear hz1)
     | clear hz1
    go_wp2
    go_loop [9,10] (fun sn si=>∃ j:Nat,j≤k∧si=.int .i64 ((l:Int) - (j:Int))∧sn=.int .i64 (hv s p k j)) (fun _ si=>(intOf si - (p:Int)+1).toNat)
    case atStart=>exact ⟨0,by omega,by go_num,rfl⟩
    case round =>
     obtain ⟨j,hj,rfl,rfl⟩:=hrel
     by_cases hjk:j<k
     ·obtain ⟨q,hq⟩:∃ q:Nat,(l:Int) - (j:Int)=(q:Int):=⟨l - j,by omega⟩
      have hqs:q<s.size:=by omega
      have hpq:p≤q:=by omega
      have hh:=hv_lt s p k j (by omega)
      have hbq:=bt_lt s q
      rw [← HG.out q hqs] at hbq
      have HS:Hid (hv s p k (j+1)=hv s p k j*128+(s[q]'hqs).toNat % 128):=by
       rw [Hid,HG.out q hqs]
       have e:p+k - 1 - j=q:=by omega
       simp only [hv,e]
      rw [hq]
      have HQ:Hid ((l:Int) - (j:Int)=(q:Int)):=hq
      clear hq
      generalize hv s p k j=x at hh HS
      go_wp2
      go_round
      case rel=>exact ⟨j+1,by omega,by have:=HQ.out;go_num,by rw [HS.out];go_num⟩
      case measure=>simp [intOf];omega
     ·obtain rfl:j=k:=by omega
      have hvl:=val_lt s p j
      rw [HV.out]
      have hex:¬ (p:Int)≤(l:Int) - (j:Int):=by omega
      by_cases hok:val s p j≤999999999
      ·have hNum:Num s p (val s p j) j:=⟨hI,HN.out,rfl,hok⟩
       clear hI
       generalize val s p j=v at *
       go_wp2_with (go_at_call 108;refine (numberOK_yes _ _ (by omega)).mono ?_;rintro e w' ⟨rfl,rfl⟩)
       go_ret3
       exact ⟨.inl ⟨v,j,hNum,by rw [hle];rfl⟩,hb1⟩
      ·have hN:NoNum s p:=noNum_great hI (by omega)
       clear hI
       generalize val s p j=v at *
       go_wp2_with (go_at_call 108;refine (numberOK_no _ _ (by omega)).mono ?_;rintro e w' ⟨rfl,rfl⟩)
       go_ret3
       exact ⟨.inr ⟨hN,_,rfl⟩,hb1⟩
 ·have hN:NoNum s p:=noNum_of_noEnd (noEnd_cut hk)
  go_wp2
  go_ret3
  exact ⟨.inr ⟨hN,_,rfl⟩,hb1⟩
end Go.Proofs.YthlcdhddickdiaaDoor
