/-
  Joined: Read2, ReadList, UnpackI, UnProgI.
-/
import Derived.Test.YtbdfbdbpjijcdaaGreatDoorM41
import Derived.Test.YtbdfbdbpjijcdaaGreatDoorM43
import Derived.Test.YtbdfbdbpjijcdaaGreatDoorM44

namespace Go.Proofs.YtbdfbdbpjijcdaaGreatDoor
set_option maxRecDepth 100000
set_option maxHeartbeats 16000000
open Go.RowKit

theorem sub_trans {a b c:World} (h:Below a.heap.size a b) (k:Below b.heap.size b c):Below a.heap.size a c:=h.trans (k.mono h.size)

theorem faultCode_nil (w:World):Calls Tryz.prog 153 #[.nilIface] w fun e w'=>e=.returned (.int .i64 0)∧Below w.heap.size w w':=by
 go_enter Tryz.func153,Tryz.ntmps153
 go_wp2_with (go_at_call 213;refine (as_nil _ _).mono ?_;rintro e w1 ⟨rfl,rfl⟩)
 go_ret
 exact ⟨rfl,(Below.refl _ _).alloc (Nat.le_refl _) _⟩

theorem faultCode_hit (x y:Int) (w:World) (hE:ErrType w):Calls Tryz.prog 153 #[.iface 275 (.agg #[.int .i64 x,.int .i64 y])] w fun e w'=>e=.returned (.int .i64 x)∧Below w.heap.size w w':=by
 have hb0:Below w.heap.size w (w.alloc (.cells #[.int .i64 0,.int .i64 0] 275)):=(Below.refl _ _).alloc (Nat.le_refl _) _
 have hE0:=hE.below hb0
 have ht:=heap_alloc_new w (.cells #[.int .i64 0,.int .i64 0] 275)
 go_enter Tryz.func153,Tryz.ntmps153
 go_wp2_with fail
 refine (as_hit _ x y _ _ _ hE0 ht rfl).mono ?_
 rintro e w1 ⟨rfl,hw1⟩
 have hb1:Below w.heap.size w w1:=by
  rw [hw1]
  refine below_setRow ?_ (Nat.le_refl _) _
  exact ((((hb0.alloc (by simp) _).alloc (by simp;omega) _).alloc (by simp;omega) _).alloc (by simp;omega) _)
 have hc:w1.cell? ⟨w.heap.size,0,none⟩=some (.int .i64 x):=by
  rw [hw1]
  have hh:=setRow_heap (((((w.alloc (.cells #[.int .i64 0,.int .i64 0] 275)).alloc (.cells #[.pointer (some ⟨w.heap.size,0,none⟩)] 277)).alloc (.cells #[.pointer (some ⟨3,277,none⟩),.pointer (some ⟨w.heap.size+1,0,none⟩),.int .u64 150] 314)).alloc (.cells #[.pointer (some ⟨3,277,none⟩),.pointer (some ⟨w.heap.size+1,0,none⟩),.int .u64 150] 314)).alloc (.cells #[.int .i64 x,.int .i64 y] 275)) w.heap.size #[.int .i64 0,.int .i64 0] #[.int .i64 x,.int .i64 y] 275 (0,0)
   (by rw [Below.heap_alloc _ _ _ (by simp;omega),Below.heap_alloc _ _ _ (by simp;omega),Below.heap_alloc _ _ _ (by simp;omega),Below.heap_alloc _ _ _ (by simp)];exact ht)
  rw [cell_of_row _ _ 0 _ _ _ (by simpa using hh)]
  rfl
 clear hw1 ht hE0 hb0 hE
 go_wp2
 go_ret
 exact ⟨rfl,hb1⟩

theorem readNumber_any (s:ByteArray) (p:Nat) (w:World) (hs:s.size≤65536) (hp:p≤s.size) :
  Calls Tryz.prog 212 #[.string s,.int .i64 p] w fun e w'=>((∃ n k:Nat,Num s p n k∧e=.returned (.tuple #[.int .i64 n,.int .i64 ((p+k:Nat):Int),.nilIface]))∨(NoNum s p∧∃ y:Int,e=.returned (.tuple #[.int .i64 0,.int .i64 0,.iface 275 (.agg #[.int .i64 3,.int .i64 y])])))∧Below w.heap.size w w':=by
 go_enter Tryz.func212,Tryz.ntmps212
 go_wp2_with fail
 refine (numberSize_any _ _ (by simp;omega)).mono ?_
 rintro e w1 ⟨k,rfl,hk,hb1⟩
 rcases hk with hk | ⟨rfl,hk⟩
 ·have hI:=isEnd_cut hp hk
  clear hk
  obtain ⟨k1,k5,kp,k4,kb⟩:=id hI
  have hk0:((k:Int) == 0)=false:=by simp;omega
  obtain ⟨l,hl⟩:∃ l:Nat,l=p+k - 1:=⟨_,rfl⟩
  have hlt:l<s.size:=by omega
  have hg:=bt_get s l hlt
  have hle:p+k=l+1:=by omega
  have hval:=hv_val s p k k1 k5
  by_cases hz:1<k∧bt s l=0
  ·obtain ⟨hk2,hz0⟩:=hz
   have hN:NoNum s p:=noNum_zero hI hk2 (by rw [← hl];exact hz0)
   have hzz:(s[l]'hlt).toNat=0:=by rw [hg];exact hz0
   have hadd:(p:Int)+(k:Int) - 1=(l:Int):=by omega
   clear hg hval k4 kb hI hz0 hl
   go_wp2
   go_ret3
   exact ⟨.inr ⟨hN,_,rfl⟩,hb1⟩
  ·have hz1:1<k→((((s[l]'hlt).toNat:Nat):Int) == 0)=false:=by
    intro h
    rw [hg]
    simp
    intro h0
    exact hz ⟨h,h0⟩
   have hadd:(p:Int)+(k:Int) - 1=(l:Int):=by omega
   have HG:Hid (∀ q (hq:q<s.size),(s[q]'hq).toNat=bt s q):=fun q hq=>bt_get s q hq
   have HV:Hid (hv s p k k=val s p k):=hval
   have hnz:¬ (1<k∧bt s (p+k - 1)=0):=by rw [← hl];exact hz
   have HN:Hid (¬ (1<k∧bt s (p+k - 1)=0)):=hnz
   have HL:Hid (l=p+k - 1):=hl
   clear hg hval k4 kb hz hl hnz
   by_cases hk2:1<k
   all_goals
    first
     | (have hz2:=hz1 hk2;clear hz1)
     | clear hz1
    go_wp2
    go_loop [9,10] (fun sn si=>∃ j:Nat,j≤k∧si=.int .i64 ((l:Int) - (j:Int))∧sn=.int .i64 (hv s p k j)) (fun _ si=>(intOf si - (p:Int)+1).toNat)
    case atStart=>exact ⟨0,by omega,by go_num,rfl⟩
    case round =>
     obtain ⟨j,hj,rfl,rfl⟩:=hrel
     by_cases hjk:j<k
     ·obtain ⟨q,hq⟩:∃ q:Nat,(l:Int) - (j:Int)=(q:Int):=⟨l - j,by omega⟩
      have hqs:q<s.size:=by omega
      have hpq:p≤q:=by omega
      have hh:=hv_lt s p k j (by omega)
      have hbq:=bt_lt s q
      rw [← HG.out q hqs] at hbq
      have HS:Hid (hv s p k (j+1)=hv s p k j*128+(s[q]'hqs).toNat % 128):=by
       rw [Hid,HG.out q hqs]
       have e:p+k - 1 - j=q:=by omega
       simp only [hv,e]
      rw [hq]
      have HQ:Hid ((l:Int) - (j:Int)=(q:Int)):=hq
      clear hq
      generalize hv s p k j=x at hh HS
      go_wp2
      go_round
      case rel=>exact ⟨j+1,by omega,by have:=HQ.out;go_num,by rw [HS.out];go_num⟩
      case measure=>simp [intOf];omega
     ·obtain rfl:j=k:=by omega
      have hvl:=val_lt s p j
      rw [HV.out]
      have hex:¬ (p:Int)≤(l:Int) - (j:Int):=by omega
      by_cases hok:val s p j≤999999999
      ·have hNum:Num s p (val s p j) j:=⟨hI,HN.out,rfl,hok⟩
       clear hI
       generalize val s p j=v at *
       go_wp2_with (go_at_call 150;refine (numberOK_yes _ _ (by omega)).mono ?_;rintro e w' ⟨rfl,rfl⟩)
       go_ret3
       exact ⟨.inl ⟨v,j,hNum,by rw [hle];rfl⟩,hb1⟩
      ·have hN:NoNum s p:=noNum_great hI (by omega)
       clear hI
       generalize val s p j=v at *
       go_wp2_with (go_at_call 150;refine (numberOK_no _ _ (by omega)).mono ?_;rintro e w' ⟨rfl,rfl⟩)
       go_ret3
       exact ⟨.inr ⟨hN,_,rfl⟩,hb1⟩
 ·have hN:NoNum s p:=noNum_of_noEnd (noEnd_cut hk)
  go_wp2
  go_ret3
  exact ⟨.inr ⟨hN,_,rfl⟩,hb1⟩


abbrev natCells (zs:List Nat):List Value:=(zs.map fun z:Nat=>(z:Int)).map (Value.int .i64)
def ReadList (s:ByteArray) (base:Nat) (e:Ending) (w':World):Prop:=
 (∃ (zs:List Nat) (g:Nat),Listed s zs∧e=.returned (.tuple #[.slice (some ⟨g,0,none⟩) zs.length zs.length,.nilIface])∧w'.ownsRow base 3 1 (.slice (some ⟨g,0,none⟩) zs.length zs.length) zs.length (natCells zs)) ∨
 (NoList s∧∃ y:Int,e=.returned (.tuple #[.slice none 0 0,.iface 275 (.agg #[.int .i64 3,.int .i64 y])]))

theorem store_step (zs:List Nat) (n j v:Nat) (hl:zs.length=j) (hj:j<n):(((zs.map fun z:Nat=>(z:Int))++List.replicate (n - j) (0:Int)).map (Value.int .i64)).set j (.int .i64 v)=(((zs++[v]).map fun z:Nat=>(z:Int))++List.replicate (n - (j+1)) (0:Int)).map (Value.int .i64):=by
 have hr:List.replicate (n - j) (0:Int)=0::List.replicate (n - (j+1)) 0:=by
  rw [show n - j=(n - (j+1))+1 by omega,List.replicate_succ]
 have e:(zs.map fun z:Nat=>(z:Int)).length=j:=by simpa using hl
 rw [← List.map_set,hr,List.set_append_right _ _ (by omega),e,Nat.sub_self]
 simp

theorem readList_any (s:ByteArray) (w:World) (hs:s.size≤65536) :
  Calls Tryz.prog 152 #[.string s] w fun e w'=>ReadList s w.heap.size e w'∧Below w.heap.size w w':=by
 obtain ⟨i0,hi,hz0,hz1,hz2⟩:=info_parts info_int
 go_enter Tryz.func152,Tryz.ntmps152
 go_wp2_with fail
 refine (readNumber_any s 0 _ hs (by omega)).mono ?_
 rintro e w1 ⟨hk,hb1⟩
 have hbs:=hb1.size
 rcases hk with ⟨n,k,hn,rfl⟩ | ⟨hn,y,rfl⟩
 ·rw [Nat.zero_add]
  have hN:Hid (Num s 0 n k):=hn
  have hks:k≤s.size:=by have:=hn.le;omega
  have hnle:n≤999999999:=hn.val_le
  clear hn
  by_cases h4:4096<n
  ·have hNL:Hid (NoList s):=noList_great hN.out h4
   clear hN
   go_wp2
   go_ret2
   exact ⟨.inr ⟨hNL.out,_,rfl⟩,hb1⟩
  ·go_wp2_with (at_make;refine wpList_make_full _ rfl _ _ 36 rfl w.heap.size 3 i0 (.int .i64 0) 1 Tryz.underlying36 hi hz0 hz1 _ _ _ _ n rfl rfl (by omega) (by omega) ?b2 ?b3 ?b4 ?_)
   case b2=>rw [hz2];omega
   case b3=>unfold maxLen;omega
   case b4=>exact hbs
   intro w2 hown2 hgrow2
   have hb2:Below w.heap.size w w2:=hb1.grown hgrow2 hbs (fun k h=>by cases h)
   rw [made_ints] at hown2
   clear hgrow2
   obtain ⟨g,hg⟩:∃ g,g=w1.heap.size:=⟨_,rfl⟩
   have HG:Hid (w.heap.size≤g):=by rw [Hid,hg];exact hbs
   rw [← hg] at hown2
   rw [← hg]
   clear hg
   go_wp2
   go_loopw [5,6,26] (fun sp se si wr=>∃ (j q:Nat) (zs:List Nat),j≤n∧zs.length=j∧q≤s.size∧si=.int .i64 j∧sp=.int .i64 q∧se=.nilIface∧NumsAt s k zs q∧wr.ownsRow w.heap.size 3 1 (.slice (some ⟨g,0,none⟩) n n) n (((zs.map fun z:Nat=>(z:Int))++List.replicate (n - j) (0:Int)).map (Value.int .i64))∧Below w.heap.size w wr) (fun _ _ si _=>n - (intOf si).toNat)
   case atStart=>exact ⟨0,k,[],by omega,rfl,hks,rfl,rfl,rfl,rfl,by simpa using hown2,hb2⟩
   case round =>
    obtain ⟨j,q,zs,hj,hzl,hq,rfl,rfl,rfl,hat,hr,hbel⟩:=hrel
    have HAT:Hid (NumsAt s k zs q∧zs.length=j):=⟨hat,hzl⟩
    clear hat
    by_cases hlt:j<n
    ·go_wp2_with fail
     refine (readNumber_any s q _ hs hq).mono ?_
     rintro e w3 ⟨hk3,hb3⟩
     have hr3:w3.ownsRow w.heap.size 3 1 (.slice (some ⟨g,0,none⟩) n n) n (((zs.map fun z:Nat=>(z:Int))++List.replicate (n - j) (0:Int)).map (Value.int .i64)):=hr.kept (row:=none) ⟨hb3.os,hb3.tape,hb3.output,hb3.size,fun i hi _=>hb3.block i hi⟩ (by simp [Value.ownBlock])
     have hbel3:Below w.heap.size w w3:=hbel.trans (hb3.mono hbel.size)
     have hf:=hr3.frozenAt j
     have hold:∃ u,w3.cell? ⟨g,j,none⟩=some u:=by
      have:=hr3.cellAt j (by omega)
      rw [this]
      exact ⟨_,List.getElem?_eq_getElem (by simp;omega)⟩
     obtain ⟨u,hu⟩:=hold
     rcases hk3 with ⟨v,k3,hv,rfl⟩ | ⟨hv,y,rfl⟩
     ·have hst:=(hr3.stored j (.int .i64 (v:Int))).1
      rw [store_step zs n j v hzl hlt] at hst
      have hb4:Below w.heap.size w (w3.setCell ⟨g,j,none⟩ (.int .i64 (v:Int))):=hbel3.setCell HG.out _
      have HV:Hid (NumsAt s k (zs++[v]) (q+k3)∧q+k3≤s.size):=⟨numsAt_snoc HAT.out.1 hv,hv.le⟩
      clear hv hr hr3 hb3 hbel hbel3 hzl
      go_wp2
      go_roundw
      case rel=>exact ⟨j+1,q+k3,zs++[v],by omega,by simp [HAT.out.2],HV.out.2,by go_num,rfl,rfl,HV.out.1,hst,hb4⟩
      case measure=>simp [intOf];omega
     ·have hNL:Hid (NoList s):=noList_stop hN.out HAT.out.1 (by rw [HAT.out.2];exact hlt) hv
      have hb4:Below w.heap.size w (w3.setCell ⟨g,j,none⟩ (.int .i64 0)):=hbel3.setCell HG.out _
      clear hv hr hr3 hb3 hbel hbel3 hzl hN HAT
      go_wp2
      go_ret2
      exact ⟨.inr ⟨hNL.out,_,rfl⟩,hb4⟩
    ·obtain rfl:j=n:=by omega
     by_cases hqs:q<s.size
     ·have hNL:Hid (NoList s):=noList_more hN.out HAT.out.1 HAT.out.2 (by omega)
      clear hN HAT hr hzl
      go_wp2
      go_ret2
      exact ⟨.inr ⟨hNL.out,_,rfl⟩,hbel⟩
     ·have hL:Hid (Listed s zs):=listed_of hN.out (by omega) HAT.out.1 HAT.out.2 (by omega)
      have hr':Hid (wr.ownsRow w.heap.size 3 1 (.slice (some ⟨g,0,none⟩) zs.length zs.length) zs.length (natCells zs)):=by
       rw [Hid]
       rw [Nat.sub_self,List.replicate_zero,List.append_nil] at hr
       rw [hzl]
       exact hr
      have HZ:Hid (zs.length=j):=hzl
      clear hN HAT hr hzl
      go_wp2
      go_ret2
      exact ⟨.inl ⟨zs,g,hL.out,by rw [HZ.out];rfl,hr'.out⟩,hbel⟩
 ·have hNL:Hid (NoList s):=noList_of_noNum hn
  clear hn
  go_wp2
  go_ret2
  exact ⟨.inr ⟨hNL.out,_,rfl⟩,hb1⟩


abbrev ofNats (zs:List Nat):List Int:=zs.map fun z:Nat=>(z:Int)
def Own (base:Nat) (w:World) (a:Option Addr) (n cap:Nat) (zs:List Int):Prop:=
 zs.length=n∧n≤cap∧cap≤maxLen∧(n=0∨∃ g,a=some ⟨g,0,none⟩∧w.ownsRow base 3 1 (.slice (some ⟨g,0,none⟩) n cap) n (zs.map (Value.int .i64)))
theorem Own.ints {base:Nat} {w:World} {a:Option Addr} {n cap:Nat} {zs:List Int} (h:Own base w a n cap zs):Ints .i64 w a n cap zs:=by
 obtain ⟨h1,h2,h3,h4⟩:=h
 rcases h4 with h4 | ⟨g,rfl,h4⟩
 ·exact ⟨h1,h2,h3,.inl h4⟩
 ·exact Ints.of_owns h4
theorem Own.of_owns {base:Nat} {w:World} {v:Value} {n:Nat} {zs:List Int} (h:w.ownsRow base 3 1 v n (zs.map (Value.int .i64))):∃ a cap,v=.slice a n cap∧Own base w a n cap zs:=by
 have hl:zs.length=n:=by simpa using h.1
 rcases h.2 with ⟨rfl,rfl⟩ | ⟨g,cap,cur,rfl,hg,hh,hn,hc,hs,ht⟩
 ·exact ⟨none,0,rfl,hl,Nat.le_refl _,by unfold maxLen;omega,.inl rfl⟩
 ·exact ⟨_,cap,rfl,hl,hn,hc,.inr ⟨g,rfl,h⟩⟩
theorem Own.kept {base:Nat} {w w':World} {a:Option Addr} {n cap:Nat} {zs:List Int} (h:Own base w a n cap zs) (hb:Below w.heap.size w w'):Own base w' a n cap zs:=by
 obtain ⟨h1,h2,h3,h4⟩:=h
 refine ⟨h1,h2,h3,?_⟩
 rcases h4 with h4 | ⟨g,rfl,h4⟩
 ·exact .inl h4
 ·exact .inr ⟨g,rfl,h4.kept (row:=none) ⟨hb.os,hb.tape,hb.output,hb.size,fun i hi _=>hb.block i hi⟩ (by simp [Value.ownBlock])⟩
def IsUnpacked (s:ByteArray) (zs:List Nat) (c:Int):Prop:=(c=0∧Listed s zs)∨(c=3∧NoList s∧zs=[])
theorem IsUnpacked.len {s:ByteArray} {zs:List Nat} {c:Int} (h:IsUnpacked s zs c):zs.length≤4096:=by
 rcases h with ⟨_,_,_,h,_⟩ | ⟨_,_,rfl⟩
 ·exact h
 ·simp
def UnpackedL (s:ByteArray) (base:Nat) (e:Ending) (w':World):Prop:=
 ∃ (a:Option Addr) (cap:Nat) (zs:List Nat) (c:Int),IsUnpacked s zs c∧e=.returned (.tuple #[.slice a zs.length cap,.int .i64 c])∧Own base w' a zs.length cap (ofNats zs)

theorem implUnpackList_any (s:ByteArray) (w:World) (hs:s.size≤65536) (hE:ErrType w) :
  Calls Tryz.prog 83 #[.string s] w fun e w'=>UnpackedL s w.heap.size e w'∧Below w.heap.size w w':=by
 go_enter Tryz.func83,Tryz.ntmps83
 go_wp2_with fail
 refine (readList_any s _ hs).mono ?_
 rintro e w1 ⟨hk,hb1⟩
 have hE1:=hE.below hb1
 rcases hk with ⟨zs,g,hL,rfl,ho⟩ | ⟨hN,y,rfl⟩
 ·have HL:Hid (Listed s zs):=hL
  have HO:Hid (Own w.heap.size w1 (some ⟨g,0,none⟩) zs.length zs.length (ofNats zs)):=by
   obtain ⟨a,cap,e,hO⟩:=Own.of_owns ho
   cases e
   exact hO
  clear hL ho
  go_wp2_with fail
  refine (faultCode_nil _).mono ?_
  rintro e w2 ⟨rfl,hb2⟩
  go_wp2
  go_ret2
  exact ⟨⟨_,_,zs,0,.inl ⟨rfl,HL.out⟩,rfl,HO.out.kept hb2⟩,sub_trans hb1 hb2⟩
 ·have HN:Hid (NoList s):=hN
  clear hN
  go_wp2_with fail
  refine (faultCode_hit 3 y _ hE1).mono ?_
  rintro e w2 ⟨rfl,hb2⟩
  go_wp2
  go_ret2
  exact ⟨⟨none,0,[],3,.inr ⟨rfl,HN.out,rfl⟩,rfl,rfl,Nat.le_refl _,by unfold maxLen;omega,.inl rfl⟩,sub_trans hb1 hb2⟩


theorem numsAt_small {s:ByteArray}:∀ {zs:List Nat} {p q:Nat},NumsAt s p zs q→∀ z ∈ zs,z≤999999999
 | [],_,_,_,z,hz=>by cases hz
 | y::zs,p,q,h,z,hz=>by
  obtain ⟨k,hk,hr⟩:=h
  rcases List.mem_cons.1 hz with rfl | hz
  ·exact hk.val_le
  ·exact numsAt_small hr z hz
end Go.Proofs.YtbdfbdbpjijcdaaGreatDoor
