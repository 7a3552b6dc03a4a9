/-
  Joined: Lists, ReadList, UnpackList.
-/
import Derived.Test.YtdopgkbegjfhjaaGreatDoorR10

namespace Go.Proofs.YtdopgkbegjfhjaaGreatDoor
set_option maxRecDepth 100000
set_option maxHeartbeats 16000000

def NumsAt (s:ByteArray):Nat→List Nat→Nat→Prop
 | p,[],q=>q=p
 | p,z::zs,q=>∃ k,Num s p z k∧NumsAt s (p+k) zs q
theorem numsAt_snoc {s:ByteArray}:∀ {zs:List Nat} {p q z k:Nat},NumsAt s p zs q→Num s q z k→NumsAt s p (zs++[z]) (q+k)
 | [],p,q,z,k,h,hn=>by
  obtain rfl:q=p:=h
  exact ⟨k,hn,rfl⟩
 | y::zs,p,q,z,k,h,hn=>by
  obtain ⟨j,hj,hr⟩:=h
  exact ⟨j,hj,numsAt_snoc hr hn⟩
theorem numsAt_prefix {s:ByteArray}:∀ {zs ys:List Nat} {p q r:Nat},NumsAt s p zs q→NumsAt s p ys r→zs.length≤ys.length→∃ rest,ys=zs++rest∧NumsAt s q rest r
 | [],ys,p,q,r,h,g,_=>by
  obtain rfl:q=p:=h
  exact ⟨ys,rfl,g⟩
 | z::zs,[],_,_,_,_,_,hl=>by simp at hl
 | z::zs,y::ys,p,q,r,h,g,hl=>by
  obtain ⟨j,hj,hr⟩:=h
  obtain ⟨k,hk,gr⟩:=g
  obtain ⟨rfl,rfl⟩:=hj.only hk
  obtain ⟨rest,rfl,h'⟩:=numsAt_prefix hr gr (by simpa using hl)
  exact ⟨rest,rfl,h'⟩
def Listed (s:ByteArray) (zs:List Nat):Prop:=∃ k,Num s 0 zs.length k∧zs.length≤4096∧NumsAt s k zs s.size
def NoList (s:ByteArray):Prop:=∀ zs,¬ Listed s zs
theorem Listed.only {s:ByteArray} {zs ys:List Nat} (h:Listed s zs) (g:Listed s ys):zs=ys:=by
 obtain ⟨k,hk,_,hz⟩:=h
 obtain ⟨j,hj,_,hy⟩:=g
 obtain ⟨hl,rfl⟩:=hk.only hj
 obtain ⟨rest,rfl,_⟩:=numsAt_prefix hz hy (by omega)
 have:rest=[]:=by
  have e:=hl
  simp at e
  exact e
 rw [this,List.append_nil]
theorem noList_of_noNum {s:ByteArray} (h:NoNum s 0):NoList s:=fun _ ⟨_,hk,_⟩=>h _ _ hk
theorem noList_great {s:ByteArray} {n k:Nat} (h:Num s 0 n k) (hn:4096<n):NoList s:=by
 intro zs ⟨j,hj,hl,_⟩
 obtain ⟨rfl,_⟩:=h.only hj
 omega
theorem noList_stop {s:ByteArray} {n k q:Nat} {zs:List Nat} (h:Num s 0 n k) (hz:NumsAt s k zs q) (hl:zs.length<n) (hq:NoNum s q):NoList s:=by
 intro ys ⟨j,hj,_,hy⟩
 obtain ⟨e,rfl⟩:=h.only hj
 obtain ⟨rest,e2,hr⟩:=numsAt_prefix hz hy (by omega)
 cases rest with
 | nil=>rw [List.append_nil] at e2;rw [e2] at e;omega
 | cons y rest =>
  obtain ⟨i,hi,_⟩:=hr
  exact hq _ _ hi
theorem noList_more {s:ByteArray} {n k q:Nat} {zs:List Nat} (h:Num s 0 n k) (hz:NumsAt s k zs q) (hl:zs.length=n) (hq:q≠s.size):NoList s:=by
 intro ys ⟨j,hj,_,hy⟩
 obtain ⟨e,rfl⟩:=h.only hj
 obtain ⟨rest,e2,hr⟩:=numsAt_prefix hz hy (by omega)
 have:rest=[]:=by
  have e3:=congrArg List.length e2
  rw [List.length_append] at e3
  exact List.eq_nil_of_length_eq_zero (by omega)
 subst this
 exact hq hr.symm
theorem listed_of {s:ByteArray} {n k q:Nat} {zs:List Nat} (h:Num s 0 n k) (hn:n≤4096) (hz:NumsAt s k zs q) (hl:zs.length=n) (hq:q=s.size):Listed s zs:=by
 subst hl hq
 exact ⟨k,h,hn,hz⟩
theorem Num.le {s:ByteArray} {p n k:Nat} (h:Num s p n k):p+k≤s.size:=h.1.2.2.1
theorem Num.one {s:ByteArray} {p n k:Nat} (h:Num s p n k):1≤k:=h.1.1
theorem Num.val_le {s:ByteArray} {p n k:Nat} (h:Num s p n k):n≤999999999:=h.2.2.2

theorem isEnd_uncut {s:ByteArray} {p k:Nat} (h:IsEnd s p k):IsEnd (s.extract p s.size) 0 k:=by
 obtain ⟨h1,h2,h3,h4,h5⟩:=h
 refine ⟨h1,h2,by simp;omega,fun i hi=>?_,?_⟩
 ·rw [bt_cut];simpa using h4 i hi
 ·rw [bt_cut,show p+(0+k - 1)=p+k - 1 by omega];exact h5
theorem num_uncut {s:ByteArray} {p n k:Nat} (h:Num s p n k):Num (s.extract p s.size) 0 n k:=by
 obtain ⟨h1,h2,h3,h4⟩:=h
 refine ⟨isEnd_uncut h1,?_,?_,h4⟩
 ·rw [bt_cut,show p+(0+k - 1)=p+k - 1 by have:=h1.1;omega];exact h2
 ·rw [h3,val_cut]
theorem noNum_cut {s:ByteArray} {p:Nat} (h:NoNum (s.extract p s.size) 0):NoNum s p:=fun n k hn=>h n k (num_uncut hn)
theorem cut_cut (s:ByteArray) (p k:Nat):(s.extract p s.size).extract k (s.extract p s.size).size=s.extract (p+k) s.size:=by
 apply ByteArray.ext
 simp only [ByteArray.data_extract,ByteArray.size_extract,Array.extract_extract]
 congr 1
 omega

open Go.RowKit

abbrev natCells (zs:List Nat):List Value:=(zs.map fun z:Nat=>(z:Int)).map (Value.int .i64)
theorem one_i64 (n:Int):∀ u ∈ [Value.int .i64 n],u.oneCell'=true:=by intro u hu;simp at hu;subst hu;rfl

def ReadList (s:ByteArray) (base:Nat) (e:Ending) (w':World):Prop:=
 (∃ (zs:List Nat) (g:Nat),Listed s zs∧e=.returned (.tuple #[.slice (some ⟨g,0,none⟩) zs.length zs.length,.nilIface])∧w'.ownsRow base 3 1 (.slice (some ⟨g,0,none⟩) zs.length zs.length) zs.length (natCells zs)) ∨
 (NoList s∧∃ y:Int,e=.returned (.tuple #[.slice none 0 0,.iface 189 (.agg #[.int .i64 3,.int .i64 y])]))

theorem store_step (zs:List Nat) (n j v:Nat) (hl:zs.length=j) (hj:j<n):(((zs.map fun z:Nat=>(z:Int))++List.replicate (n - j) (0:Int)).map (Value.int .i64)).set j (.int .i64 v)=(((zs++[v]).map fun z:Nat=>(z:Int))++List.replicate (n - (j+1)) (0:Int)).map (Value.int .i64):=by
 have hr:List.replicate (n - j) (0:Int)=0::List.replicate (n - (j+1)) 0:=by
  rw [show n - j=(n - (j+1))+1 by omega,List.replicate_succ]
 have e:(zs.map fun z:Nat=>(z:Int)).length=j:=by simpa using hl
 rw [← List.map_set,hr,List.set_append_right _ _ (by omega),e,Nat.sub_self]
 simp

theorem readList_any (s:ByteArray) (w:World) (hs:s.size≤65536) :
  Calls Tryz.prog 136 #[.string s] w fun e w'=>ReadList s w.heap.size e w'∧Below w.heap.size w w':=by
 obtain ⟨i0,hi,hz0,hz1,hz2⟩:=info_parts info_int
 go_enter Tryz.func136,Tryz.ntmps136
 go_wp2_with fail
 refine (readNumber_any s 0 _ hs (by omega)).mono ?_
 rintro e w1 ⟨hk,hb1⟩
 have hbs:=hb1.size
 rcases hk with ⟨n,k,hn,rfl⟩ | ⟨hn,y,rfl⟩
 ·rw [Nat.zero_add]
  have hN:Hid (Num s 0 n k):=hn
  have hks:k≤s.size:=by have:=hn.le;omega
  have hnle:n≤999999999:=hn.val_le
  clear hn
  by_cases h4:4096<n
  ·have hNL:Hid (NoList s):=noList_great hN.out h4
   clear hN
   go_wp2
   go_ret2
   exact ⟨.inr ⟨hNL.out,_,rfl⟩,hb1⟩
  ·go_wp2_with (at_make;refine wpList_make_full _ rfl _ _ 40 rfl w.heap.size 3 i0 (.int .i64 0) 1 Tryz.underlying40 hi hz0 hz1 _ _ _ _ n rfl rfl (by omega) (by omega) ?b2 ?b3 ?b4 ?_)
   case b2=>rw [hz2];omega
   case b3=>unfold maxLen;omega
   case b4=>exact hbs
   intro w2 hown2 hgrow2
   have hb2:Below w.heap.size w w2:=hb1.grown hgrow2 hbs (fun k h=>by cases h)
   rw [made_ints] at hown2
   clear hgrow2
   obtain ⟨g,hg⟩:∃ g,g=w1.heap.size:=⟨_,rfl⟩
   have HG:Hid (w.heap.size≤g):=by rw [Hid,hg];exact hbs
   rw [← hg] at hown2
   rw [← hg]
   clear hg
   go_wp2
   go_loopw [5,6,26] (fun sp se si wr=>∃ (j q:Nat) (zs:List Nat),j≤n∧zs.length=j∧q≤s.size∧si=.int .i64 j∧sp=.int .i64 q∧se=.nilIface∧NumsAt s k zs q∧wr.ownsRow w.heap.size 3 1 (.slice (some ⟨g,0,none⟩) n n) n (((zs.map fun z:Nat=>(z:Int))++List.replicate (n - j) (0:Int)).map (Value.int .i64))∧Below w.heap.size w wr) (fun _ _ si _=>n - (intOf si).toNat)
   case atStart=>exact ⟨0,k,[],by omega,rfl,hks,rfl,rfl,rfl,rfl,by simpa using hown2,hb2⟩
   case round =>
    obtain ⟨j,q,zs,hj,hzl,hq,rfl,rfl,rfl,hat,hr,hbel⟩:=hrel
    have HAT:Hid (NumsAt s k zs q∧zs.length=j):=⟨hat,hzl⟩
    clear hat
    by_cases hlt:j<n
    ·go_wp2_with fail
     refine (readNumber_any s q _ hs hq).mono ?_
     rintro e w3 ⟨hk3,hb3⟩
     have hr3:w3.ownsRow w.heap.size 3 1 (.slice (some ⟨g,0,none⟩) n n) n (((zs.map fun z:Nat=>(z:Int))++List.replicate (n - j) (0:Int)).map (Value.int .i64)):=hr.kept (row:=none) ⟨hb3.os,hb3.tape,hb3.output,hb3.size,fun i hi _=>hb3.block i hi⟩ (by simp [Value.ownBlock])
     have hbel3:Below w.heap.size w w3:=hbel.trans (hb3.mono hbel.size)
     have hf:=hr3.frozenAt j
     have hold:∃ u,w3.cell? ⟨g,j,none⟩=some u:=by
      have:=hr3.cellAt j (by omega)
      rw [this]
      exact ⟨_,List.getElem?_eq_getElem (by simp;omega)⟩
     obtain ⟨u,hu⟩:=hold
     rcases hk3 with ⟨v,k3,hv,rfl⟩ | ⟨hv,y,rfl⟩
     ·have hst:=(hr3.stored j (.int .i64 (v:Int))).1
      rw [store_step zs n j v hzl hlt] at hst
      have hb4:Below w.heap.size w (w3.setCell ⟨g,j,none⟩ (.int .i64 (v:Int))):=hbel3.setCell HG.out _
      have HV:Hid (NumsAt s k (zs++[v]) (q+k3)∧q+k3≤s.size):=⟨numsAt_snoc HAT.out.1 hv,hv.le⟩
      clear hv hr hr3 hb3 hbel hbel3 hzl
      go_wp2
      go_roundw
      case rel=>exact ⟨j+1,q+k3,zs++[v],by omega,by simp [HAT.out.2],HV.out.2,by go_num,rfl,rfl,HV.out.1,hst,hb4⟩
      case measure=>simp [intOf];omega
     ·have hNL:Hid (NoList s):=noList_stop hN.out HAT.out.1 (by rw [HAT.out.2];exact hlt) hv
      have hb4:Below w.heap.size w (w3.setCell ⟨g,j,none⟩ (.int .i64 0)):=hbel3.setCell HG.out _
      clear hv hr hr3 hb3 hbel hbel3 hzl hN HAT
      go_wp2
      go_ret2
      exact ⟨.inr ⟨hNL.out,_,rfl⟩,hb4⟩
    ·obtain rfl:j=n:=by omega
     by_cases hqs:q<s.size
     ·have hNL:Hid (NoList s):=noList_more hN.out HAT.out.1 HAT.out.2 (by omega)
      clear hN HAT hr hzl
      go_wp2
      go_ret2
      exact ⟨.inr ⟨hNL.out,_,rfl⟩,hbel⟩
     ·have hL:Hid (Listed s zs):=listed_of hN.out (by omega) HAT.out.1 HAT.out.2 (by omega)
      have hr':Hid (wr.ownsRow w.heap.size 3 1 (.slice (some ⟨g,0,none⟩) zs.length zs.length) zs.length (natCells zs)):=by
       rw [Hid]
       rw [Nat.sub_self,List.replicate_zero,List.append_nil] at hr
       rw [hzl]
       exact hr
      have HZ:Hid (zs.length=j):=hzl
      clear hN HAT hr hzl
      go_wp2
      go_ret2
      exact ⟨.inl ⟨zs,g,hL.out,by rw [HZ.out];rfl,hr'.out⟩,hbel⟩
 ·have hNL:Hid (NoList s):=noList_of_noNum hn
  clear hn
  go_wp2
  go_ret2
  exact ⟨.inr ⟨hNL.out,_,rfl⟩,hb1⟩


def ReadSpec (s:ByteArray) (base:Nat) (e:Ending) (w':World):Prop:=
 (∃ (zs:List Nat) (v:Value),Listed s zs∧e=.returned (.tuple #[v,.bool true])∧w'.ownsRow base 3 1 v zs.length (natCells zs)) ∨
 (NoList s∧∃ v:Value,e=.returned (.tuple #[v,.bool false]))

theorem isEmpty_yes {x:ByteArray} (h:x.size=0):x.toList.isEmpty=true:=by rw [← decide_eq_emptyBytes];simpa using h
theorem isEmpty_no {x:ByteArray} (h:0<x.size):x.toList.isEmpty=false:=by
 rw [← decide_eq_emptyBytes]
 simp
 intro e
 rw [e] at h
 simp at h

theorem l01Read_any (s:ByteArray) (w:World) (hs:s.size≤65536) :
  Calls Tryz.prog 77 #[.string s] w fun e w'=>ReadSpec s w.heap.size e w'∧Below w.heap.size w w':=by
 obtain ⟨i0,hi,hz0,hz1,hz2⟩:=info_parts info_int
 go_enter Tryz.func77,Tryz.ntmps77
 go_wp2_with fail
 refine (l01Take_any s _ (by omega)).mono ?_
 rintro e w1 ⟨hk,rfl⟩
 rcases hk with ⟨n,k,hn,rfl⟩ | ⟨hn,rfl⟩
 ·have hN:Hid (Num s 0 n k):=hn
  have hks:k≤s.size:=by have:=hn.le;omega
  have hk1:1≤k:=hn.one
  have hk00:((k:Int) == 0)=false:=by simp;omega
  have hnle:n≤999999999:=hn.val_le
  clear hn
  by_cases h4:4096<n
  ·have hNL:Hid (NoList s):=noList_great hN.out h4
   clear hN
   go_wp2
   go_ret2
   exact ⟨.inr ⟨hNL.out,_,rfl⟩,(Below.refl _ _).alloc (Nat.le_refl _) _⟩
  ·go_wp2
   go_loopw [0,6,7] (fun st so si wr=>∃ (j q:Nat) (zs:List Nat) (x:ByteArray),j≤n∧zs.length=j∧q≤s.size∧si=.int .i64 j∧st=.string x∧Hid (x=s.extract q s.size)∧NumsAt s k zs q∧wr.ownsRow w.heap.size 3 1 so j (natCells zs)∧Below w.heap.size w wr) (fun _ _ si _=>n - (intOf si).toNat)
   case atStart=>exact ⟨0,k,[],_,by omega,rfl,hks,rfl,rfl,rfl,rfl,World.ownsRow_lit w #[] 0 (Nat.le_refl _) (by unfold maxLen;omega) rfl,(Below.refl _ _).alloc (Nat.le_refl _) _⟩
   case round =>
    obtain ⟨j,q,zs,x,hj,hzl,hq,rfl,rfl,HX,hat,hr,hbel⟩:=hrel
    have HAT:Hid (NumsAt s k zs q∧zs.length=j):=⟨hat,hzl⟩
    have hxs:x.size=s.size - q:=by rw [HX.out];simp
    have hx6:x.size≤65536:=by omega
    have hbw:=hbel.size
    clear hat
    by_cases hlt:j<n
    ·go_wp2_with fail
     refine (l01Take_any x _ (by omega)).mono ?_
     rintro e w3 ⟨hk3,rfl⟩
     rcases hk3 with ⟨v,k3,hv,rfl⟩ | ⟨hv,rfl⟩
     ·have hk3x:k3≤x.size:=by have:=hv.le;omega
      have hk31:((k3:Int) == 0)=false:=by have:=hv.one;simp;omega
      have hvs:Num s q v k3:=num_cut hq (by rw [← HX.out];exact hv)
      have HV:Hid (NumsAt s k (zs++[v]) (q+k3)∧q+k3≤s.size):=⟨numsAt_snoc HAT.out.1 hvs,hvs.le⟩
      have HX2:Hid (x.extract k3 x.size=s.extract (q+k3) s.size):=by rw [Hid,HX.out,cut_cut]
      clear hv hvs hxs hzl
      go_wp2_with (at_builtin;refine wpList_append_own _ rfl _ _ 40 rfl w.heap.size 3 i0 (.int .i64 0) 1 8 Tryz.underlying40 hi hz0 hz1 hz2 rfl (by decide) _ _ _ rfl (hr.alloc _) ⟨wr.heap.size,0,none⟩ 1 1 [.int .i64 (v:Int)] rfl rfl (cell_one_new _ _ _) (one_i64 _) ?c3 ?c4 ?c5 ?_)
      case c3=>unfold maxLen;omega
      case c4=>omega
      case c5=>simp;omega
      intro v' w4 hown' hgrow _
      have hb4:Below w.heap.size w w4:=(hbel.alloc hbw _).grown hgrow (by simp;omega) (fun i hi=>(hr.lt _ hi).1)
      have R:w4.ownsRow w.heap.size 3 1 v' (j+1) (natCells (zs++[v])):=by simpa using hown'
      clear hown' hgrow hr
      go_wp2
      go_roundw
      case rel=>exact ⟨j+1,q+k3,zs++[v],_,by omega,by simp [HAT.out.2],HV.out.2,by go_num,rfl,HX2.out,HV.out.1,R,hb4⟩
      case measure=>simp [intOf];omega
     ·have hNL:Hid (NoList s):=noList_stop hN.out HAT.out.1 (by rw [HAT.out.2];exact hlt) (noNum_cut (by rw [← HX.out];exact hv))
      clear hv hr hzl hN HAT hxs
      go_wp2
      go_ret2
      exact ⟨.inr ⟨hNL.out,_,rfl⟩,hbel.alloc hbw _⟩
    ·obtain rfl:j=n:=by omega
     by_cases hqs:q<s.size
     ·have hNL:Hid (NoList s):=noList_more hN.out HAT.out.1 HAT.out.2 (by omega)
      have hemp:x.toList.isEmpty=false:=isEmpty_no (by omega)
      clear hN HAT hr hzl hxs
      go_wp2
      go_ret2
      exact ⟨.inr ⟨hNL.out,_,rfl⟩,hbel⟩
     ·have hL:Hid (Listed s zs):=listed_of hN.out (by omega) HAT.out.1 HAT.out.2 (by omega)
      have hemp:x.toList.isEmpty=true:=isEmpty_yes (by omega)
      rw [← hzl] at hr
      have hr':Hid (wr.ownsRow w.heap.size 3 1 u6 zs.length (natCells zs)):=hr
      clear hN HAT hr hzl hxs
      go_wp2
      go_ret2
      exact ⟨.inl ⟨zs,_,hL.out,rfl,hr'.out⟩,hbel⟩
 ·have hNL:Hid (NoList s):=noList_of_noNum hn
  clear hn
  go_wp2
  go_ret2
  exact ⟨.inr ⟨hNL.out,_,rfl⟩,(Below.refl _ _).alloc (Nat.le_refl _) _⟩
end Go.Proofs.YtdopgkbegjfhjaaGreatDoor
