/-
  Joined: UnpackList, UnpackI, UnProgI.
-/
import Derived.Handy
import Derived.OwnWalk
import Derived.Shelf.Abstract
import Derived.Deep.RegionLaw
import Derived.Test.YthlcdhddickdiaaDoorR30
import Derived.Test.YthlcdhddickdiaaDoorR31

namespace Go.Proofs.YthlcdhddickdiaaDoor
set_option maxRecDepth 100000
set_option maxHeartbeats 16000000
open Go.RowKit

def ReadSpec (s:ByteArray) (base:Nat) (e:Ending) (w':World):Prop:=
 (∃ (zs:List Nat) (v:Value),Listed s zs∧e=.returned (.tuple #[v,.bool true])∧w'.ownsRow base 3 1 v zs.length (natCells zs)) ∨
 (NoList s∧∃ v:Value,e=.returned (.tuple #[v,.bool false]))

theorem isEmpty_yes {x:ByteArray} (h:x.size=0):x.toList.isEmpty=true:=by rw [← decide_eq_emptyBytes];simpa using h
theorem isEmpty_no {x:ByteArray} (h:0<x.size):x.toList.isEmpty=false:=by
 rw [← decide_eq_emptyBytes]
 simp
 intro e
 rw [e] at h
 simp at h

theorem l01Read_any (s:ByteArray) (w:World) (hs:s.size≤65536) :
  Calls Tryd.prog 69 #[.string s] w fun e w'=>ReadSpec s w.heap.size e w'∧Below w.heap.size w w':=by
 obtain ⟨i0,hi,hz0,hz1,hz2⟩:=info_parts info_int
 go_enter Tryd.func69,Tryd.ntmps69
 go_wp2_with fail
 refine (l01Take_any s _ (by omega)).mono ?_
 rintro e w1 ⟨hk,rfl⟩
 rcases hk with ⟨n,k,hn,rfl⟩ | ⟨hn,rfl⟩
 ·have hN:Hid (Num s 0 n k):=hn
  have hks:k≤s.size:=by have:=hn.le;omega
  have hk1:1≤k:=hn.one
  have hk00:((k:Int) == 0)=false:=by simp;omega
  have hnle:n≤999999999:=hn.val_le
  clear hn
  by_cases h4:4096<n
  ·have hNL:Hid (NoList s):=noList_great hN.out h4
   clear hN
   go_wp2
   go_ret2
   exact ⟨.inr ⟨hNL.out,_,rfl⟩,(Below.refl _ _).alloc (Nat.le_refl _) _⟩
  ·go_wp2
   go_loopw [0,6,7] (fun st so si wr=>∃ (j q:Nat) (zs:List Nat) (x:ByteArray),j≤n∧zs.length=j∧q≤s.size∧si=.int .i64 j∧st=.string x∧Hid (x=s.extract q s.size)∧NumsAt s k zs q∧wr.ownsRow w.heap.size 3 1 so j (natCells zs)∧Below w.heap.size w wr) (fun _ _ si _=>n - (intOf si).toNat)
   case atStart=>exact ⟨0,k,[],_,by omega,rfl,hks,rfl,rfl,rfl,rfl,World.ownsRow_lit w #[] 0 (Nat.le_refl _) (by unfold maxLen;omega) rfl,(Below.refl _ _).alloc (Nat.le_refl _) _⟩
   case round =>
    obtain ⟨j,q,zs,x,hj,hzl,hq,rfl,rfl,HX,hat,hr,hbel⟩:=hrel
    have HAT:Hid (NumsAt s k zs q∧zs.length=j):=⟨hat,hzl⟩
    have hxs:x.size=s.size - q:=by rw [HX.out];simp
    have hx6:x.size≤65536:=by omega
    have hbw:=hbel.size
    clear hat
    by_cases hlt:j<n
    ·go_wp2_with fail
     refine (l01Take_any x _ (by omega)).mono ?_
     rintro e w3 ⟨hk3,rfl⟩
     rcases hk3 with ⟨v,k3,hv,rfl⟩ | ⟨hv,rfl⟩
     ·have hk3x:k3≤x.size:=by have:=hv.le;omega
      have hk31:((k3:Int) == 0)=false:=by have:=hv.one;simp;omega
      have hvs:Num s q v k3:=num_cut hq (by rw [← HX.out];exact hv)
      have HV:Hid (NumsAt s k (zs++[v]) (q+k3)∧q+k3≤s.size):=⟨numsAt_snoc HAT.out.1 hvs,hvs.le⟩
      have HX2:Hid (x.extract k3 x.size=s.extract (q+k3) s.size):=by rw [Hid,HX.out,cut_cut]
      clear hv hvs hxs hzl
      go_wp2_with (at_builtin;refine wpList_append_own _ rfl _ _ 26 rfl w.heap.size 3 i0 (.int .i64 0) 1 8 Tryd.underlying26 hi hz0 hz1 hz2 rfl (by decide) _ _ _ rfl (hr.alloc _) ⟨wr.heap.size,0,none⟩ 1 1 [.int .i64 (v:Int)] rfl rfl (cell_one_new _ _ _) (one_i64 _) ?c3 ?c4 ?c5 ?_)
      case c3=>unfold maxLen;omega
      case c4=>omega
      case c5=>simp;omega
      intro v' w4 hown' hgrow _
      have hb4:Below w.heap.size w w4:=(hbel.alloc hbw _).grown hgrow (by simp;omega) (fun i hi=>(hr.lt _ hi).1)
      have R:w4.ownsRow w.heap.size 3 1 v' (j+1) (natCells (zs++[v])):=by simpa using hown'
      clear hown' hgrow hr
      go_wp2
      go_roundw
      case rel=>exact ⟨j+1,q+k3,zs++[v],_,by omega,by simp [HAT.out.2],HV.out.2,by go_num,rfl,HX2.out,HV.out.1,R,hb4⟩
      case measure=>simp [intOf];omega
     ·have hNL:Hid (NoList s):=noList_stop hN.out HAT.out.1 (by rw [HAT.out.2];exact hlt) (noNum_cut (by rw [← HX.out];exact hv))
      clear hv hr hzl hN HAT hxs
      go_wp2
      go_ret2
      exact ⟨.inr ⟨hNL.out,_,rfl⟩,hbel.alloc hbw _⟩
    ·obtain rfl:j=n:=by omega
     by_cases hqs:q<s.size
     ·have hNL:Hid (NoList s):=noList_more hN.out HAT.out.1 HAT.out.2 (by omega)
      have hemp:x.toList.isEmpty=false:=isEmpty_no (by omega)
      clear hN HAT hr hzl hxs
      go_wp2
      go_ret2
      exact ⟨.inr ⟨hNL.out,_,rfl⟩,hbel⟩
     ·have hL:Hid (Listed s zs):=listed_of hN.out (by omega) HAT.out.1 HAT.out.2 (by omega)
      have hemp:x.toList.isEmpty=true:=isEmpty_yes (by omega)
      rw [← hzl] at hr
      have hr':Hid (wr.ownsRow w.heap.size 3 1 u6 zs.length (natCells zs)):=hr
      clear hN HAT hr hzl hxs
      go_wp2
      go_ret2
      exact ⟨.inl ⟨zs,_,hL.out,rfl,hr'.out⟩,hbel⟩
 ·have hNL:Hid (NoList s):=noList_of_noNum hn
  clear hn
  go_wp2
  go_ret2
  exact ⟨.inr ⟨hNL.out,_,rfl⟩,(Below.refl _ _).alloc (Nat.le_refl _) _⟩


abbrev ofNats (zs:List Nat):List Int:=zs.map fun z:Nat=>(z:Int)
def Own (base:Nat) (w:World) (a:Option Addr) (n cap:Nat) (zs:List Int):Prop:=
 zs.length=n∧n≤cap∧cap≤maxLen∧(n=0∨∃ g,a=some ⟨g,0,none⟩∧w.ownsRow base 3 1 (.slice (some ⟨g,0,none⟩) n cap) n (zs.map (Value.int .i64)))
theorem Own.ints {base:Nat} {w:World} {a:Option Addr} {n cap:Nat} {zs:List Int} (h:Own base w a n cap zs):Ints .i64 w a n cap zs:=by
 obtain ⟨h1,h2,h3,h4⟩:=h
 rcases h4 with h4 | ⟨g,rfl,h4⟩
 ·exact ⟨h1,h2,h3,.inl h4⟩
 ·exact Ints.of_owns h4
theorem Own.of_owns {base:Nat} {w:World} {v:Value} {n:Nat} {zs:List Int} (h:w.ownsRow base 3 1 v n (zs.map (Value.int .i64))):∃ a cap,v=.slice a n cap∧Own base w a n cap zs:=by
 have hl:zs.length=n:=by simpa using h.1
 rcases h.2 with ⟨rfl,rfl⟩ | ⟨g,cap,cur,rfl,hg,hh,hn,hc,hs,ht⟩
 ·exact ⟨none,0,rfl,hl,Nat.le_refl _,by unfold maxLen;omega,.inl rfl⟩
 ·exact ⟨_,cap,rfl,hl,hn,hc,.inr ⟨g,rfl,h⟩⟩
theorem Own.kept {base:Nat} {w w':World} {a:Option Addr} {n cap:Nat} {zs:List Int} (h:Own base w a n cap zs) (hb:Below w.heap.size w w'):Own base w' a n cap zs:=by
 obtain ⟨h1,h2,h3,h4⟩:=h
 refine ⟨h1,h2,h3,?_⟩
 rcases h4 with h4 | ⟨g,rfl,h4⟩
 ·exact .inl h4
 ·exact .inr ⟨g,rfl,h4.kept (row:=none) ⟨hb.os,hb.tape,hb.output,hb.size,fun i hi _=>hb.block i hi⟩ (by simp [Value.ownBlock])⟩
def IsUnpacked (s:ByteArray) (zs:List Nat) (c:Int):Prop:=(c=0∧Listed s zs)∨(c=3∧NoList s∧zs=[])
theorem IsUnpacked.len {s:ByteArray} {zs:List Nat} {c:Int} (h:IsUnpacked s zs c):zs.length≤4096:=by
 rcases h with ⟨_,_,_,h,_⟩ | ⟨_,_,rfl⟩
 ·exact h
 ·simp
def UnpackedL (s:ByteArray) (base:Nat) (e:Ending) (w':World):Prop:=
 ∃ (a:Option Addr) (cap:Nat) (zs:List Nat) (c:Int),IsUnpacked s zs c∧e=.returned (.tuple #[.slice a zs.length cap,.int .i64 c])∧Own base w' a zs.length cap (ofNats zs)

theorem implUnpackList_any (s:ByteArray) (w:World) (hs:s.size≤65536) (hE:ErrType w) :
  Calls Tryd.prog 48 #[.string s] w fun e w'=>UnpackedL s w.heap.size e w'∧Below w.heap.size w w':=by
 go_enter Tryd.func48,Tryd.ntmps48
 go_wp2_with fail
 refine (readList_any s _ hs).mono ?_
 rintro e w1 ⟨hk,hb1⟩
 have hE1:=hE.below hb1
 rcases hk with ⟨zs,g,hL,rfl,ho⟩ | ⟨hN,y,rfl⟩
 ·have HL:Hid (Listed s zs):=hL
  have HO:Hid (Own w.heap.size w1 (some ⟨g,0,none⟩) zs.length zs.length (ofNats zs)):=by
   obtain ⟨a,cap,e,hO⟩:=Own.of_owns ho
   cases e
   exact hO
  clear hL ho
  go_wp2_with fail
  refine (faultCode_nil _).mono ?_
  rintro e w2 ⟨rfl,hb2⟩
  go_wp2
  go_ret2
  exact ⟨⟨_,_,zs,0,.inl ⟨rfl,HL.out⟩,rfl,HO.out.kept hb2⟩,sub_trans hb1 hb2⟩
 ·have HN:Hid (NoList s):=hN
  clear hN
  go_wp2_with fail
  refine (faultCode_hit 3 y _ hE1).mono ?_
  rintro e w2 ⟨rfl,hb2⟩
  go_wp2
  go_ret2
  exact ⟨⟨none,0,[],3,.inr ⟨rfl,HN.out,rfl⟩,rfl,rfl,Nat.le_refl _,by unfold maxLen;omega,.inl rfl⟩,sub_trans hb1 hb2⟩


theorem numsAt_small {s:ByteArray}:∀ {zs:List Nat} {p q:Nat},NumsAt s p zs q→∀ z ∈ zs,z≤999999999
 | [],_,_,_,z,hz=>by cases hz
 | y::zs,p,q,h,z,hz=>by
  obtain ⟨k,hk,hr⟩:=h
  rcases List.mem_cons.1 hz with rfl | hz
  ·exact hk.val_le
  ·exact numsAt_small hr z hz
end Go.Proofs.YthlcdhddickdiaaDoor
