/-
  Joined: Read2, Lists, ReadList, Bug0, MarkH, BugS, Ent0, BugPl, ItmI.
-/
import Derived.Test.YtdopgkbegjfhjaaGreatDoorL07

namespace Go.Proofs.YtdopgkbegjfhjaaGreatDoor
set_option maxRecDepth 100000
set_option maxHeartbeats 16000000
open Go.RowKit

theorem sub_trans {a b c:World} (h:Below a.heap.size a b) (k:Below b.heap.size b c):Below a.heap.size a c:=h.trans (k.mono h.size)

theorem faultCode_nil (w:World):Calls Tryz.prog 126 #[.nilIface] w fun e w'=>e=.returned (.int .i64 0)∧Below w.heap.size w w':=by
 go_enter Tryz.func126,Tryz.ntmps126
 go_wp2_with (go_at_call 151;refine (as_nil _ _).mono ?_;rintro e w1 ⟨rfl,rfl⟩)
 go_ret
 exact ⟨rfl,(Below.refl _ _).alloc (Nat.le_refl _) _⟩

theorem faultCode_hit (x y:Int) (w:World) (hE:ErrType w):Calls Tryz.prog 126 #[.iface 189 (.agg #[.int .i64 x,.int .i64 y])] w fun e w'=>e=.returned (.int .i64 x)∧Below w.heap.size w w':=by
 have hb0:Below w.heap.size w (w.alloc (.cells #[.int .i64 0,.int .i64 0] 189)):=(Below.refl _ _).alloc (Nat.le_refl _) _
 have hE0:=hE.below hb0
 have ht:=heap_alloc_new w (.cells #[.int .i64 0,.int .i64 0] 189)
 go_enter Tryz.func126,Tryz.ntmps126
 go_wp2_with fail
 refine (as_hit _ x y _ _ _ hE0 ht rfl).mono ?_
 rintro e w1 ⟨rfl,hw1⟩
 have hb1:Below w.heap.size w w1:=by
  rw [hw1]
  refine below_setRow ?_ (Nat.le_refl _) _
  exact ((((hb0.alloc (by simp) _).alloc (by simp;omega) _).alloc (by simp;omega) _).alloc (by simp;omega) _)
 have hc:w1.cell? ⟨w.heap.size,0,none⟩=some (.int .i64 x):=by
  rw [hw1]
  have hh:=setRow_heap (((((w.alloc (.cells #[.int .i64 0,.int .i64 0] 189)).alloc (.cells #[.pointer (some ⟨w.heap.size,0,none⟩)] 191)).alloc (.cells #[.pointer (some ⟨5,191,none⟩),.pointer (some ⟨w.heap.size+1,0,none⟩),.int .u64 150] 202)).alloc (.cells #[.pointer (some ⟨5,191,none⟩),.pointer (some ⟨w.heap.size+1,0,none⟩),.int .u64 150] 202)).alloc (.cells #[.int .i64 x,.int .i64 y] 189)) w.heap.size #[.int .i64 0,.int .i64 0] #[.int .i64 x,.int .i64 y] 189 (0,0)
   (by rw [Below.heap_alloc _ _ _ (by simp;omega),Below.heap_alloc _ _ _ (by simp;omega),Below.heap_alloc _ _ _ (by simp;omega),Below.heap_alloc _ _ _ (by simp)];exact ht)
  rw [cell_of_row _ _ 0 _ _ _ (by simpa using hh)]
  rfl
 clear hw1 ht hE0 hb0 hE
 go_wp2
 go_ret
 exact ⟨rfl,hb1⟩

theorem readNumber_any (s:ByteArray) (p:Nat) (w:World) (hs:s.size≤65536) (hp:p≤s.size) :
  Calls Tryz.prog 150 #[.string s,.int .i64 p] w fun e w'=>((∃ n k:Nat,Num s p n k∧e=.returned (.tuple #[.int .i64 n,.int .i64 ((p+k:Nat):Int),.nilIface]))∨(NoNum s p∧∃ y:Int,e=.returned (.tuple #[.int .i64 0,.int .i64 0,.iface 189 (.agg #[.int .i64 3,.int .i64 y])])))∧Below w.heap.size w w':=by
 go_enter Tryz.func150,Tryz.ntmps150
 go_wp2_with fail
 refine (numberSize_any _ _ (by simp;omega)).mono ?_
 rintro e w1 ⟨k,rfl,hk,hb1⟩
 rcases hk with hk | ⟨rfl,hk⟩
 ·have hI:=isEnd_cut hp hk
  clear hk
  obtain ⟨k1,k5,kp,k4,kb⟩:=id hI
  have hk0:((k:Int) == 0)=false:=by simp;omega
  obtain ⟨l,hl⟩:∃ l:Nat,l=p+k - 1:=⟨_,rfl⟩
  have hlt:l<s.size:=by omega
  have hg:=bt_get s l hlt
  have hle:p+k=l+1:=by omega
  have hval:=hv_val s p k k1 k5
  by_cases hz:1<k∧bt s l=0
  ·obtain ⟨hk2,hz0⟩:=hz
   have hN:NoNum s p:=noNum_zero hI hk2 (by rw [← hl];exact hz0)
   have hzz:(s[l]'hlt).toNat=0:=by rw [hg];exact hz0
   have hadd:(p:Int)+(k:Int) - 1=(l:Int):=by omega
   clear hg hval k4 kb hI hz0 hl
   go_wp2
   go_ret3
   exact ⟨.inr ⟨hN,_,rfl⟩,hb1⟩
  ·have hz1:1<k→((((s[l]'hlt).toNat:Nat):Int) == 0)=false:=by
    intro h
    rw [hg]
    simp
    intro h0
    exact hz ⟨h,h0⟩
   have hadd:(p:Int)+(k:Int) - 1=(l:Int):=by omega
   have HG:Hid (∀ q (hq:q<s.size),(s[q]'hq).toNat=bt s q):=fun q hq=>bt_get s q hq
   have HV:Hid (hv s p k k=val s p k):=hval
   have hnz:¬ (1<k∧bt s (p+k - 1)=0):=by rw [← hl];exact hz
   have HN:Hid (¬ (1<k∧bt s (p+k - 1)=0)):=hnz
   have HL:Hid (l=p+k - 1):=hl
   clear hg hval k4 kb hz hl hnz
   by_cases hk2:1<k
   all_goals
    first
     | (have hz2:=hz1 hk2;clear hz1)
     | clear hz1
    go_wp2
    go_loop [9,10] (fun sn si=>∃ j:Nat,j≤k∧si=.int .i64 ((l:Int) - (j:Int))∧sn=.int .i64 (hv s p k j)) (fun _ si=>(intOf si - (p:Int)+1).toNat)
    case atStart=>exact ⟨0,by omega,by go_num,rfl⟩
    case round =>
     obtain ⟨j,hj,rfl,rfl⟩:=hrel
     by_cases hjk:j<k
     ·obtain ⟨q,hq⟩:∃ q:Nat,(l:Int) - (j:Int)=(q:Int):=⟨l - j,by omega⟩
      have hqs:q<s.size:=by omega
      have hpq:p≤q:=by omega
      have hh:=hv_lt s p k j (by omega)
      have hbq:=bt_lt s q
      rw [← HG.out q hqs] at hbq
      have HS:Hid (hv s p k (j+1)=hv s p k j*128+(s[q]'hqs).toNat % 128):=by
       rw [Hid,HG.out q hqs]
       have e:p+k - 1 - j=q:=by omega
       simp only [hv,e]
      rw [hq]
      have HQ:Hid ((l:Int) - (j:Int)=(q:Int)):=hq
      clear hq
      generalize hv s p k j=x at hh HS
      go_wp2
      go_round
      case rel=>exact ⟨j+1,by omega,by have:=HQ.out;go_num,by rw [HS.out];go_num⟩
      case measure=>simp [intOf];omega
     ·obtain rfl:j=k:=by omega
      have hvl:=val_lt s p j
      rw [HV.out]
      have hex:¬ (p:Int)≤(l:Int) - (j:Int):=by omega
      by_cases hok:val s p j≤999999999
      ·have hNum:Num s p (val s p j) j:=⟨hI,HN.out,rfl,hok⟩
       clear hI
       generalize val s p j=v at *
       go_wp2_with (go_at_call 128;refine (numberOK_yes _ _ (by omega)).mono ?_;rintro e w' ⟨rfl,rfl⟩)
       go_ret3
       exact ⟨.inl ⟨v,j,hNum,by rw [hle];rfl⟩,hb1⟩
      ·have hN:NoNum s p:=noNum_great hI (by omega)
       clear hI
       generalize val s p j=v at *
       go_wp2_with (go_at_call 128;refine (numberOK_no _ _ (by omega)).mono ?_;rintro e w' ⟨rfl,rfl⟩)
       go_ret3
       exact ⟨.inr ⟨hN,_,rfl⟩,hb1⟩
 ·have hN:NoNum s p:=noNum_of_noEnd (noEnd_cut hk)
  go_wp2
  go_ret3
  exact ⟨.inr ⟨hN,_,rfl⟩,hb1⟩


def NumsAt (s:ByteArray):Nat→List Nat→Nat→Prop
 | p,[],q=>q=p
 | p,z::zs,q=>∃ k,Num s p z k∧NumsAt s (p+k) zs q
theorem numsAt_snoc {s:ByteArray}:∀ {zs:List Nat} {p q z k:Nat},NumsAt s p zs q→Num s q z k→NumsAt s p (zs++[z]) (q+k)
 | [],p,q,z,k,h,hn=>by
  obtain rfl:q=p:=h
  exact ⟨k,hn,rfl⟩
 | y::zs,p,q,z,k,h,hn=>by
  obtain ⟨j,hj,hr⟩:=h
  exact ⟨j,hj,numsAt_snoc hr hn⟩
theorem numsAt_prefix {s:ByteArray}:∀ {zs ys:List Nat} {p q r:Nat},NumsAt s p zs q→NumsAt s p ys r→zs.length≤ys.length→∃ rest,ys=zs++rest∧NumsAt s q rest r
 | [],ys,p,q,r,h,g,_=>by
  obtain rfl:q=p:=h
  exact ⟨ys,rfl,g⟩
 | z::zs,[],_,_,_,_,_,hl=>by simp at hl
 | z::zs,y::ys,p,q,r,h,g,hl=>by
  obtain ⟨j,hj,hr⟩:=h
  obtain ⟨k,hk,gr⟩:=g
  obtain ⟨rfl,rfl⟩:=hj.only hk
  obtain ⟨rest,rfl,h'⟩:=numsAt_prefix hr gr (by simpa using hl)
  exact ⟨rest,rfl,h'⟩
def Listed (s:ByteArray) (zs:List Nat):Prop:=∃ k,Num s 0 zs.length k∧zs.length≤4096∧NumsAt s k zs s.size
def NoList (s:ByteArray):Prop:=∀ zs,¬ Listed s zs
theorem Listed.only {s:ByteArray} {zs ys:List Nat} (h:Listed s zs) (g:Listed s ys):zs=ys:=by
 obtain ⟨k,hk,_,hz⟩:=h
 obtain ⟨j,hj,_,hy⟩:=g
 obtain ⟨hl,rfl⟩:=hk.only hj
 obtain ⟨rest,rfl,_⟩:=numsAt_prefix hz hy (by omega)
 have:rest=[]:=by
  have e:=hl
  simp at e
  exact e
 rw [this,List.append_nil]
theorem noList_of_noNum {s:ByteArray} (h:NoNum s 0):NoList s:=fun _ ⟨_,hk,_⟩=>h _ _ hk
theorem noList_great {s:ByteArray} {n k:Nat} (h:Num s 0 n k) (hn:4096<n):NoList s:=by
 intro zs ⟨j,hj,hl,_⟩
 obtain ⟨rfl,_⟩:=h.only hj
 omega
theorem noList_stop {s:ByteArray} {n k q:Nat} {zs:List Nat} (h:Num s 0 n k) (hz:NumsAt s k zs q) (hl:zs.length<n) (hq:NoNum s q):NoList s:=by
 intro ys ⟨j,hj,_,hy⟩
 obtain ⟨e,rfl⟩:=h.only hj
 obtain ⟨rest,e2,hr⟩:=numsAt_prefix hz hy (by omega)
 cases rest with
 | nil=>rw [List.append_nil] at e2;rw [e2] at e;omega
 | cons y rest =>
  obtain ⟨i,hi,_⟩:=hr
  exact hq _ _ hi
theorem noList_more {s:ByteArray} {n k q:Nat} {zs:List Nat} (h:Num s 0 n k) (hz:NumsAt s k zs q) (hl:zs.length=n) (hq:q≠s.size):NoList s:=by
 intro ys ⟨j,hj,_,hy⟩
 obtain ⟨e,rfl⟩:=h.only hj
 obtain ⟨rest,e2,hr⟩:=numsAt_prefix hz hy (by omega)
 have:rest=[]:=by
  have e3:=congrArg List.length e2
  rw [List.length_append] at e3
  exact List.eq_nil_of_length_eq_zero (by omega)
 subst this
 exact hq hr.symm
theorem listed_of {s:ByteArray} {n k q:Nat} {zs:List Nat} (h:Num s 0 n k) (hn:n≤4096) (hz:NumsAt s k zs q) (hl:zs.length=n) (hq:q=s.size):Listed s zs:=by
 subst hl hq
 exact ⟨k,h,hn,hz⟩
theorem Num.le {s:ByteArray} {p n k:Nat} (h:Num s p n k):p+k≤s.size:=h.1.2.2.1
theorem Num.one {s:ByteArray} {p n k:Nat} (h:Num s p n k):1≤k:=h.1.1
theorem Num.val_le {s:ByteArray} {p n k:Nat} (h:Num s p n k):n≤999999999:=h.2.2.2


abbrev natCells (zs:List Nat):List Value:=(zs.map fun z:Nat=>(z:Int)).map (Value.int .i64)
theorem one_i64 (n:Int):∀ u ∈ [Value.int .i64 n],u.oneCell'=true:=by intro u hu;simp at hu;subst hu;rfl

def ReadList (s:ByteArray) (base:Nat) (e:Ending) (w':World):Prop:=
 (∃ (zs:List Nat) (g:Nat),Listed s zs∧e=.returned (.tuple #[.slice (some ⟨g,0,none⟩) zs.length zs.length,.nilIface])∧w'.ownsRow base 3 1 (.slice (some ⟨g,0,none⟩) zs.length zs.length) zs.length (natCells zs)) ∨
 (NoList s∧∃ y:Int,e=.returned (.tuple #[.slice none 0 0,.iface 189 (.agg #[.int .i64 3,.int .i64 y])]))

theorem store_step (zs:List Nat) (n j v:Nat) (hl:zs.length=j) (hj:j<n):(((zs.map fun z:Nat=>(z:Int))++List.replicate (n - j) (0:Int)).map (Value.int .i64)).set j (.int .i64 v)=(((zs++[v]).map fun z:Nat=>(z:Int))++List.replicate (n - (j+1)) (0:Int)).map (Value.int .i64):=by
 have hr:List.replicate (n - j) (0:Int)=0::List.replicate (n - (j+1)) 0:=by
  rw [show n - j=(n - (j+1))+1 by omega,List.replicate_succ]
 have e:(zs.map fun z:Nat=>(z:Int)).length=j:=by simpa using hl
 rw [← List.map_set,hr,List.set_append_right _ _ (by omega),e,Nat.sub_self]
 simp

theorem readList_any (s:ByteArray) (w:World) (hs:s.size≤65536) :
  Calls Tryz.prog 136 #[.string s] w fun e w'=>ReadList s w.heap.size e w'∧Below w.heap.size w w':=by
 obtain ⟨i0,hi,hz0,hz1,hz2⟩:=info_parts info_int
 go_enter Tryz.func136,Tryz.ntmps136
 go_wp2_with fail
 refine (readNumber_any s 0 _ hs (by omega)).mono ?_
 rintro e w1 ⟨hk,hb1⟩
 have hbs:=hb1.size
 rcases hk with ⟨n,k,hn,rfl⟩ | ⟨hn,y,rfl⟩
 ·rw [Nat.zero_add]
  have hN:Hid (Num s 0 n k):=hn
  have hks:k≤s.size:=by have:=hn.le;omega
  have hnle:n≤999999999:=hn.val_le
  clear hn
  by_cases h4:4096<n
  ·have hNL:Hid (NoList s):=noList_great hN.out h4
   clear hN
   go_wp2
   go_ret2
   exact ⟨.inr ⟨hNL.out,_,rfl⟩,hb1⟩
  ·go_wp2_with (at_make;refine wpList_make_full _ rfl _ _ 40 rfl w.heap.size 3 i0 (.int .i64 0) 1 Tryz.underlying40 hi hz0 hz1 _ _ _ _ n rfl rfl (by omega) (by omega) ?b2 ?b3 ?b4 ?_)
   case b2=>rw [hz2];omega
   case b3=>unfold maxLen;omega
   case b4=>exact hbs
   intro w2 hown2 hgrow2
   have hb2:Below w.heap.size w w2:=hb1.grown hgrow2 hbs (fun k h=>by cases h)
   rw [made_ints] at hown2
   clear hgrow2
   obtain ⟨g,hg⟩:∃ g,g=w1.heap.size:=⟨_,rfl⟩
   have HG:Hid (w.heap.size≤g):=by rw [Hid,hg];exact hbs
   rw [← hg] at hown2
   rw [← hg]
   clear hg
   go_wp2
   go_loopw [5,6,26] (fun sp se si wr=>∃ (j q:Nat) (zs:List Nat),j≤n∧zs.length=j∧q≤s.size∧si=.int .i64 j∧sp=.int .i64 q∧se=.nilIface∧NumsAt s k zs q∧wr.ownsRow w.heap.size 3 1 (.slice (some ⟨g,0,none⟩) n n) n (((zs.map fun z:Nat=>(z:Int))++List.replicate (n - j) (0:Int)).map (Value.int .i64))∧Below w.heap.size w wr) (fun _ _ si _=>n - (intOf si).toNat)
   case atStart=>exact ⟨0,k,[],by omega,rfl,hks,rfl,rfl,rfl,rfl,by simpa using hown2,hb2⟩
   case round =>
    obtain ⟨j,q,zs,hj,hzl,hq,rfl,rfl,rfl,hat,hr,hbel⟩:=hrel
    have HAT:Hid (NumsAt s k zs q∧zs.length=j):=⟨hat,hzl⟩
    clear hat
    by_cases hlt:j<n
    ·go_wp2_with fail
     refine (readNumber_any s q _ hs hq).mono ?_
     rintro e w3 ⟨hk3,hb3⟩
     have hr3:w3.ownsRow w.heap.size 3 1 (.slice (some ⟨g,0,none⟩) n n) n (((zs.map fun z:Nat=>(z:Int))++List.replicate (n - j) (0:Int)).map (Value.int .i64)):=hr.kept (row:=none) ⟨hb3.os,hb3.tape,hb3.output,hb3.size,fun i hi _=>hb3.block i hi⟩ (by simp [Value.ownBlock])
     have hbel3:Below w.heap.size w w3:=hbel.trans (hb3.mono hbel.size)
     have hf:=hr3.frozenAt j
     have hold:∃ u,w3.cell? ⟨g,j,none⟩=some u:=by
      have:=hr3.cellAt j (by omega)
      rw [this]
      exact ⟨_,List.getElem?_eq_getElem (by simp;omega)⟩
     obtain ⟨u,hu⟩:=hold
     rcases hk3 with ⟨v,k3,hv,rfl⟩ | ⟨hv,y,rfl⟩
     ·have hst:=(hr3.stored j (.int .i64 (v:Int))).1
      rw [store_step zs n j v hzl hlt] at hst
      have hb4:Below w.heap.size w (w3.setCell ⟨g,j,none⟩ (.int .i64 (v:Int))):=hbel3.setCell HG.out _
      have HV:Hid (NumsAt s k (zs++[v]) (q+k3)∧q+k3≤s.size):=⟨numsAt_snoc HAT.out.1 hv,hv.le⟩
      clear hv hr hr3 hb3 hbel hbel3 hzl
      go_wp2
      go_roundw
      case rel=>exact ⟨j+1,q+k3,zs++[v],by omega,by simp [HAT.out.2],HV.out.2,by go_num,rfl,rfl,HV.out.1,hst,hb4⟩
      case measure=>simp [intOf];omega
     ·have hNL:Hid (NoList s):=noList_stop hN.out HAT.out.1 (by rw [HAT.out.2];exact hlt) hv
      have hb4:Below w.heap.size w (w3.setCell ⟨g,j,none⟩ (.int .i64 0)):=hbel3.setCell HG.out _
      clear hv hr hr3 hb3 hbel hbel3 hzl hN HAT
      go_wp2
      go_ret2
      exact ⟨.inr ⟨hNL.out,_,rfl⟩,hb4⟩
    ·obtain rfl:j=n:=by omega
     by_cases hqs:q<s.size
     ·have hNL:Hid (NoList s):=noList_more hN.out HAT.out.1 HAT.out.2 (by omega)
      clear hN HAT hr hzl
      go_wp2
      go_ret2
      exact ⟨.inr ⟨hNL.out,_,rfl⟩,hbel⟩
     ·have hL:Hid (Listed s zs):=listed_of hN.out (by omega) HAT.out.1 HAT.out.2 (by omega)
      have hr':Hid (wr.ownsRow w.heap.size 3 1 (.slice (some ⟨g,0,none⟩) zs.length zs.length) zs.length (natCells zs)):=by
       rw [Hid]
       rw [Nat.sub_self,List.replicate_zero,List.append_nil] at hr
       rw [hzl]
       exact hr
      have HZ:Hid (zs.length=j):=hzl
      clear hN HAT hr hzl
      go_wp2
      go_ret2
      exact ⟨.inl ⟨zs,g,hL.out,by rw [HZ.out];rfl,hr'.out⟩,hbel⟩
 ·have hNL:Hid (NoList s):=noList_of_noNum hn
  clear hn
  go_wp2
  go_ret2
  exact ⟨.inr ⟨hNL.out,_,rfl⟩,hb1⟩

set_option linter.unusedVariables false

def okB (x:I3):Bool:=
 if x.1=14 then decide (x.2.1=0) && decide (x.2.2=0)
 else if x.1=12∨x.1=13 then inB x.2.1 0 2 && inB x.2.2 0 5
 else false

theorem isThread_is (n:Int) (w:World):Calls Tryz.prog 173 #[.int .i64 n] w fun e w'=>e=.returned (.bool (inB n 0 2))∧w=w':=by
 cases h:inB n 0 2
 ·rw [inB_false] at h
  by_cases h1:0≤n
  ·have h2:decide (n<3)=false:=by simp;omega
   clear h
   go_enter Tryz.func173,Tryz.ntmps173
   go_wp2
   go_ret
   exact ⟨rfl,rfl⟩
  ·clear h
   go_enter Tryz.func173,Tryz.ntmps173
   go_wp2
   go_ret
   exact ⟨rfl,rfl⟩
 ·rw [inB_true] at h
  obtain ⟨h1,h3⟩:=h
  have h2:decide (n<3)=true:=by simp;omega
  clear h3
  go_enter Tryz.func173,Tryz.ntmps173
  go_wp2
  go_ret
  exact ⟨by simp_all,rfl⟩

theorem implBugOK_12 (a b:Int) (w:World):Calls Tryz.prog 159 #[.agg #[.int .i64 12,.int .i64 a,.int .i64 b]] w fun e w'=>e=.returned (.bool (inB a 0 2 && inB b 0 5))∧Below w.heap.size w w':=by
 have kA:=isThread_is a
 generalize inB a 0 2=p at kA
 cases p
 ·go_enter Tryz.func159,Tryz.ntmps159
  go_wp2_with fail
  refine (kA _).mono ?_
  rintro e w1 ⟨rfl,rfl⟩
  go_wp2
  go_ret
  exact ⟨rfl,by go_grown⟩
 ·cases h:inB b 0 5
  ·rw [inB_false] at h
   by_cases h1:0≤b
   ·have h2:decide (b<6)=false:=by simp;omega
    clear h
    go_enter Tryz.func159,Tryz.ntmps159
    go_wp2_with fail
    refine (kA _).mono ?_
    rintro e w1 ⟨rfl,rfl⟩
    go_wp2
    go_ret
    exact ⟨rfl,by go_grown⟩
   ·clear h
    go_enter Tryz.func159,Tryz.ntmps159
    go_wp2_with fail
    refine (kA _).mono ?_
    rintro e w1 ⟨rfl,rfl⟩
    go_wp2
    go_ret
    exact ⟨rfl,by go_grown⟩
  ·rw [inB_true] at h
   obtain ⟨h1,h3⟩:=h
   have h2:decide (b<6)=true:=by simp;omega
   clear h3
   go_enter Tryz.func159,Tryz.ntmps159
   go_wp2_with fail
   refine (kA _).mono ?_
   rintro e w1 ⟨rfl,rfl⟩
   go_wp2
   go_ret
   exact ⟨by simp_all,by go_grown⟩

theorem implBugOK_13 (a b:Int) (w:World):Calls Tryz.prog 159 #[.agg #[.int .i64 13,.int .i64 a,.int .i64 b]] w fun e w'=>e=.returned (.bool (inB a 0 2 && inB b 0 5))∧Below w.heap.size w w':=by
 have kA:=isThread_is a
 generalize inB a 0 2=p at kA
 cases p
 ·go_enter Tryz.func159,Tryz.ntmps159
  go_wp2_with fail
  refine (kA _).mono ?_
  rintro e w1 ⟨rfl,rfl⟩
  go_wp2
  go_ret
  exact ⟨rfl,by go_grown⟩
 ·cases h:inB b 0 5
  ·rw [inB_false] at h
   by_cases h1:0≤b
   ·have h2:decide (b<6)=false:=by simp;omega
    clear h
    go_enter Tryz.func159,Tryz.ntmps159
    go_wp2_with fail
    refine (kA _).mono ?_
    rintro e w1 ⟨rfl,rfl⟩
    go_wp2
    go_ret
    exact ⟨rfl,by go_grown⟩
   ·clear h
    go_enter Tryz.func159,Tryz.ntmps159
    go_wp2_with fail
    refine (kA _).mono ?_
    rintro e w1 ⟨rfl,rfl⟩
    go_wp2
    go_ret
    exact ⟨rfl,by go_grown⟩
  ·rw [inB_true] at h
   obtain ⟨h1,h3⟩:=h
   have h2:decide (b<6)=true:=by simp;omega
   clear h3
   go_enter Tryz.func159,Tryz.ntmps159
   go_wp2_with fail
   refine (kA _).mono ?_
   rintro e w1 ⟨rfl,rfl⟩
   go_wp2
   go_ret
   exact ⟨by simp_all,by go_grown⟩

theorem implBugOK_14 (a b:Int) (w:World):Calls Tryz.prog 159 #[.agg #[.int .i64 14,.int .i64 a,.int .i64 b]] w fun e w'=>e=.returned (.bool (decide (a=0) && decide (b=0)))∧Below w.heap.size w w':=by
 by_cases h:a=0
 ·subst h
  have hb:decide (b=0)=(b == 0):=rfl
  rw [hb]
  clear hb
  simp only [decide_true,Bool.true_and]
  go_enter Tryz.func159,Tryz.ntmps159
  go_wp2
  go_ret
  exact ⟨rfl,by go_grown⟩
 ·go_enter Tryz.func159,Tryz.ntmps159
  go_wp2
  go_ret
  exact ⟨by simp [h],by go_grown⟩

theorem implBugOK_0 (c a b:Int) (w:World) (h:c≠12∧c≠13∧c≠14):Calls Tryz.prog 159 #[.agg #[.int .i64 c,.int .i64 a,.int .i64 b]] w fun e w'=>e=.returned (.bool false)∧Below w.heap.size w w':=by
 obtain ⟨h1,h2,h3⟩:=h
 go_enter Tryz.func159,Tryz.ntmps159
 go_wp2
 go_ret
 exact ⟨rfl,by go_grown⟩

theorem implBugOK_is (x:I3) (w:World):Calls Tryz.prog 159 #[x.val] w fun e w'=>e=.returned (.bool (okB x))∧Below w.heap.size w w':=by
 obtain ⟨c,a,b⟩:=x
 unfold I3.val okB
 by_cases h4:c=14
 ·subst h4
  simpa using implBugOK_14 a b w
 by_cases h2:c=12
 ·subst h2
  simpa using implBugOK_12 a b w
 by_cases h3:c=13
 ·subst h3
  simpa using implBugOK_13 a b w
 ·simpa [h4,h2,h3] using implBugOK_0 c a b w ⟨h2,h3,h4⟩


theorem flat_at {xs:List I3} {t:Nat} (ht:t<xs.length):(flat xs)[t*3]?=some (.int .i64 (xs.getD t (0,0,0)).1)∧(flat xs)[t*3+1]?=some (.int .i64 (xs.getD t (0,0,0)).2.1)∧(flat xs)[t*3+2]?=some (.int .i64 (xs.getD t (0,0,0)).2.2):=by
 have hsplit:flat xs=flat (xs.take t)++((xs.getD t (0,0,0)).cells++flat (xs.drop (t+1))):=by
  rw [← List.append_assoc,← flat_take_succ ht]
  unfold flat
  rw [← List.flatMap_append,List.take_append_drop]
 have hlt:(flat (xs.take t)).length=t*3:=by rw [flat_length,List.length_take];rw [Nat.min_eq_left (by omega)]
 have h:∀ j,j<3→(flat xs)[t*3+j]?=((xs.getD t (0,0,0)).cells)[j]?:=fun j hj=>by
  rw [hsplit,List.getElem?_append_right (by omega),hlt,Nat.add_sub_cancel_left,List.getElem?_append_left (by simp [I3.cells];omega)]
 exact ⟨by simpa [I3.cells] using h 0 (by omega),by simpa [I3.cells] using h 1 (by omega),by simpa [I3.cells] using h 2 (by omega)⟩


theorem info_bug:(Tryz.prog.info? 112).map (fun i=>(i.zero,i.size,i.bytes))=some (some (.agg #[.int .i64 0,.int .i64 0,.int .i64 0]),3,24):=by kernel_rfl

open Go.RowKit Go.ChangeShapes Go.WideShapes Go.Joins
set_option linter.unusedSimpArgs false

abbrev E3:=ByteArray × List I3 × List Int
abbrev Sl2:=Sl × Sl
def entV (k:ByteArray) (s:Sl2):Value:=.agg #[.string k,.slice s.1.1 s.1.2.1 s.1.2.2,.slice s.2.1 s.2.2.1 s.2.2.2]
def entC (k:ByteArray) (s:Sl2):List Value:=[.string k,.slice s.1.1 s.1.2.1 s.1.2.2,.slice s.2.1 s.2.2.1 s.2.2.2]
def Nil0 (s:Sl2):Prop:=(s.1.1=none→s.1.2.2=0)∧(s.2.1=none→s.2.2.2=0)
def Emem (w:World) (s:Sl2) (e:E3):Prop:=(e.1.size≤maxLen∧Nil0 s)∧Instrs w s.1.1 s.1.2.1 s.1.2.2 e.2.1∧SlInts w s.2 e.2.2
theorem Emem.below {w w':World} {s:Sl2} {e:E3} (h:Emem w s e) (hb:Below w.heap.size w w'):Emem w' s e:=⟨h.1,h.2.1.below hb,h.2.2.below hb⟩
def e3d:E3:=(ByteArray.empty,[],[])
def Ents (w:World) (a:Option Addr) (len cap:Nat) (es:List E3):Prop:=
 es.length=len∧len≤cap∧cap≤maxLen∧(len=0∨∃ b off,a=some ⟨b,off,none⟩∧b<w.heap.size∧∀ t,t<len →
  ∃ s:Sl2,w.cell? ⟨b,off+t*3,none⟩=some (.string (es.getD t e3d).1)∧w.cell? ⟨b,off+t*3+1,none⟩=some (.slice s.1.1 s.1.2.1 s.1.2.2)∧w.cell? ⟨b,off+t*3+2,none⟩=some (.slice s.2.1 s.2.2.1 s.2.2.2)∧Emem w s (es.getD t e3d))
theorem Ents.below {w w':World} {a:Option Addr} {len cap:Nat} {es:List E3} (h:Ents w a len cap es) (hb:Below w.heap.size w w'):Ents w' a len cap es:=by
 obtain ⟨h1,h2,h3,h4⟩:=h
 refine ⟨h1,h2,h3,?_⟩
 rcases h4 with h4 | ⟨b,off,ha,hlt,hc⟩
 ·exact .inl h4
 ·refine .inr ⟨b,off,ha,by have:=hb.size;omega,fun t ht=>?_⟩
  obtain ⟨s,c0,c1,c2,hm⟩:=hc t ht
  exact ⟨s,by rw [hb.cell (p:=⟨b,_,none⟩) hlt];exact c0,by rw [hb.cell (p:=⟨b,_,none⟩) hlt];exact c1,by rw [hb.cell (p:=⟨b,_,none⟩) hlt];exact c2,hm.below hb⟩

section
variable {H : Type} {enc : TypeId × Value → H} {w : World} {base : Nat} {spare : Nat → Bool} {held : Bool}
end


def ltB (a b:I3):Bool:=decide (a.1<b.1∨(a.1=b.1∧(a.2.1<b.2.1∨(a.2.1=b.2.1∧a.2.2<b.2.2))))
theorem ltB_iff {a b:I3}:ltB a b=true↔a.1<b.1∨(a.1=b.1∧(a.2.1<b.2.1∨(a.2.1=b.2.1∧a.2.2<b.2.2))):=by simp [ltB]
theorem ltB_irrefl (a:I3):ltB a a=false:=by
 cases h:ltB a a
 ·rfl
 ·rw [ltB_iff] at h;omega
theorem ltB_trans {a b c:I3} (h:ltB a b=true) (k:ltB b c=true):ltB a c=true:=by
 rw [ltB_iff] at *;omega
theorem ltB_asymm {a b:I3} (h:ltB a b=true):ltB b a=false:=by
 cases k:ltB b a
 ·rfl
 ·rw [ltB_iff] at h k;omega
theorem ltB_total {a b:I3} (h:ltB a b=false) (k:ltB b a=false):a=b:=by
 obtain ⟨a0,a1,a2⟩:=a
 obtain ⟨b0,b1,b2⟩:=b
 have h':¬ ltB (a0,a1,a2) (b0,b1,b2)=true:=by simp [h]
 have k':¬ ltB (b0,b1,b2) (a0,a1,a2)=true:=by simp [k]
 rw [ltB_iff] at h' k'
 simp only at h' k'
 have e0:a0=b0:=by omega
 have e1:a1=b1:=by omega
 have e2:a2=b2:=by omega
 rw [e0,e1,e2]

def Rises (l:List I3):Prop:=l.Pairwise fun a b=>ltB a b=true
theorem Rises.same:∀ {l k:List I3},Rises l→Rises k→(∀ x,x ∈ l↔x ∈ k)→l=k
 | [],[],_,_,_=>rfl
 | [],b::k,_,_,h=>by have:=(h b).2 (by simp);simp at this
 | a::l,[],_,_,h=>by have:=(h a).1 (by simp);simp at this
 | a::l,b::k,hl,hk,h=>by
  have hl':=List.pairwise_cons.1 hl
  have hk':=List.pairwise_cons.1 hk
  have e:a=b:=by
   rcases List.mem_cons.1 ((h a).1 (by simp)) with e | e
   ·exact e
   rcases List.mem_cons.1 ((h b).2 (by simp)) with e' | e'
   ·exact e'.symm
   have h1:=hk'.1 a e
   have h2:=hl'.1 b e'
   rw [ltB_asymm h1] at h2
   cases h2
  subst e
  rw [Rises.same hl'.2 hk'.2 (fun x=>?_)]
  constructor
  ·intro hx
   rcases List.mem_cons.1 ((h x).1 (List.mem_cons_of_mem _ hx)) with e | e
   ·subst e
    have:=hl'.1 x hx
    rw [ltB_irrefl] at this
    cases this
   ·exact e
  ·intro hx
   rcases List.mem_cons.1 ((h x).2 (List.mem_cons_of_mem _ hx)) with e | e
   ·subst e
    have:=hk'.1 x hx
    rw [ltB_irrefl] at this
    cases this
   ·exact e

def putB:List I3→I3→List I3
 | [],b=>[b]
 | x::xs,b=>if ltB x b then x::putB xs b else if x=b then x::xs else b::x::xs
theorem mem_putB {x b:I3}:∀ {l:List I3},x ∈ putB l b↔x ∈ l∨x=b
 | []=>by simp [putB]
 | y::l=>by
  have ih:=mem_putB (x:=x) (b:=b) (l:=l)
  unfold putB
  split
  ·simp [ih,or_assoc]
  ·split
   ·rename_i h
    subst h
    simp
    intro e
    exact .inl e
   ·simp
    constructor
    ·rintro (h | h | h)
     ·exact .inr h
     ·exact .inl (.inl h)
     ·exact .inl (.inr h)
    ·rintro ((h | h) | h)
     ·exact .inr (.inl h)
     ·exact .inr (.inr h)
     ·exact .inl h
theorem Rises.put {b:I3}:∀ {l:List I3},Rises l→Rises (putB l b)
 | [],_=>by simp [putB,Rises]
 | y::l,h=>by
  have h':=List.pairwise_cons.1 h
  unfold putB
  split
  ·rename_i hy
   refine List.pairwise_cons.2 ⟨fun z hz=>?_,Rises.put h'.2⟩
   rcases mem_putB.1 hz with e | e
   ·exact h'.1 z e
   ·rw [e];exact hy
  ·rename_i hy
   split
   ·exact h
   ·rename_i hne
    have hby:ltB b y=true:=by
     cases k:ltB b y
     ·exact absurd (ltB_total (by simpa using hy) k) hne
     ·rfl
    refine List.pairwise_cons.2 ⟨fun z hz=>?_,h⟩
    rcases List.mem_cons.1 hz with e | e
    ·rw [e];exact hby
    ·exact ltB_trans hby (h'.1 z e)
def putAll (out l:List I3):List I3:=l.foldl putB out
theorem mem_putAll {x:I3}:∀ {l out:List I3},x ∈ putAll out l↔x ∈ out∨x ∈ l
 | [],out=>by simp [putAll]
 | y::l,out=>by
  have ih:=mem_putAll (x:=x) (l:=l) (out:=putB out y)
  unfold putAll at *
  rw [List.foldl_cons,ih,mem_putB]
  simp [or_assoc]
theorem Rises.putAll {l:List I3}:∀ {out:List I3},Rises out→Rises (putAll out l):=by
 induction l with
 | nil=>intro out h;exact h
 | cons y l ih=>intro out h;exact ih h.put
def mergeB (a b:List I3):List I3:=putAll (putAll [] a) b
theorem mergeB_rises (a b:List I3):Rises (mergeB a b):=Rises.putAll (Rises.putAll List.Pairwise.nil)
theorem mem_mergeB {x:I3} {a b:List I3}:x ∈ mergeB a b↔x ∈ a∨x ∈ b:=by
 unfold mergeB
 rw [mem_putAll,mem_putAll]
 simp
theorem putB_len (l:List I3) (b:I3):(putB l b).length≤l.length+1:=by
 induction l with
 | nil=>simp [putB]
 | cons y l ih =>
  unfold putB
  split
  ·simp;omega
  ·split<;>simp
theorem putAll_len:∀ (l out:List I3),(putAll out l).length≤out.length+l.length
 | [],out=>by simp [putAll]
 | y::l,out=>by
  have:=putAll_len l (putB out y)
  have h2:=putB_len out y
  unfold putAll at *
  simp only [List.foldl_cons,List.length_cons]
  omega
theorem mergeB_len (a b:List I3):(mergeB a b).length≤a.length+b.length:=by
 have h1:=putAll_len a []
 have h2:=putAll_len b (putAll [] a)
 simp at h1
 unfold mergeB
 omega


def inB8 (n a b:Int):Bool:=decide (a≤n∧n≤b)
theorem inB8_true {n a b:Int}:inB8 n a b=true↔a≤n∧n≤b:=by simp [inB8]
theorem inB8_false {n a b:Int}:inB8 n a b=false↔¬ (a≤n∧n≤b):=by simp only [inB8,decide_eq_false_iff_not]
theorem isThread8 (n:Int) (w:World):Calls Tryz.prog 173 #[.int .i64 n] w fun e w'=>e=.returned (.bool (inB8 n 0 2))∧w=w':=by
 cases h:inB8 n 0 2
 ·rw [inB8_false] at h
  by_cases h1:0≤n
  ·have h2:decide (n<3)=false:=by simp;omega
   clear h
   go_enter Tryz.func173,Tryz.ntmps173
   go_wp2
   go_ret
   exact ⟨rfl,rfl⟩
  ·clear h
   go_enter Tryz.func173,Tryz.ntmps173
   go_wp2
   go_ret
   exact ⟨rfl,rfl⟩
 ·rw [inB8_true] at h
  obtain ⟨h1,h3⟩:=h
  have h2:decide (n<3)=true:=by simp;omega
  clear h3
  go_enter Tryz.func173,Tryz.ntmps173
  go_wp2
  go_ret
  exact ⟨by simp_all,rfl⟩

theorem isPlace8 (n:Int) (w:World):Calls Tryz.prog 177 #[.int .i64 n] w fun e w'=>e=.returned (.bool (inB8 n 0 6))∧w=w':=by
 cases h:inB8 n 0 6
 ·rw [inB8_false] at h
  by_cases h1:0≤n
  ·have h2:decide (n≤6)=false:=by simp;omega
   clear h
   go_enter Tryz.func177,Tryz.ntmps177
   go_wp2
   go_ret
   exact ⟨rfl,rfl⟩
  ·clear h
   go_enter Tryz.func177,Tryz.ntmps177
   go_wp2
   go_ret
   exact ⟨rfl,rfl⟩
 ·rw [inB8_true] at h
  obtain ⟨h1,h3⟩:=h
  have h2:decide (n≤6)=true:=by simp;omega
  clear h3
  go_enter Tryz.func177,Tryz.ntmps177
  go_wp2
  go_ret
  exact ⟨by simp_all,rfl⟩

theorem l08Item_is (k pc:Int) (w:World) (h1:inB8 k 0 2=true) (h2:inB8 pc 0 6=true):Calls Tryz.prog 120 #[.int .i64 k,.int .i64 pc] w fun e w'=>e=.returned (.int .i64 (8*k+pc))∧w=w':=by
 obtain ⟨a1,a2⟩:=inB8_true.1 h1
 obtain ⟨b1,b2⟩:=inB8_true.1 h2
 clear h1 h2
 have q1:IntKind.i64.wrap (8*k)=8*k:=by rw [IntKind.wrap_i64];omega
 have q2:IntKind.i64.wrap (8*k+pc)=8*k+pc:=by rw [IntKind.wrap_i64];omega
 go_enter Tryz.func120,Tryz.ntmps120
 go_wp2
 go_ret
 exact ⟨rfl,rfl⟩

def itOk (n:Int):Bool:=decide (0≤n∧n≤22∧n % 8≤6)
def atV (n:Int):Value:=if itOk n=true then .tuple #[.int .i64 (n / 8),.int .i64 (n % 8),.int .i64 0] else .tuple #[.int .i64 0,.int .i64 0,.int .i64 4]
theorem atV_yes {n:Int} (h:itOk n=true):atV n=.tuple #[.int .i64 (n / 8),.int .i64 (n % 8),.int .i64 0]:=if_pos h
theorem atV_no {n:Int} (h:itOk n=false):atV n=.tuple #[.int .i64 0,.int .i64 0,.int .i64 4]:=if_neg (by rw [h];simp)

theorem quo8 (n:Int) (h:-9223372036854775808≤n∧n≤9223372036854775807):∃ q r:Int,n.tdiv 8=q∧n.tmod 8=r∧IntKind.i64.wrap q=q∧IntKind.i64.wrap r=r∧itOk n=(inB8 q 0 2 && inB8 r 0 6)∧(itOk n=true→q=n / 8∧r=n % 8)∧(0≤n→q=n / 8∧r=n % 8):=by
 rcases Int.lt_or_le n 0 with hn | hn
 ·have e1:n.tdiv 8=- ((-n) / 8):=by
   have:n=- (- n):=by omega
   rw [this,Int.neg_tdiv,Int.tdiv_eq_ediv_of_nonneg (by omega)];omega
  have e2:n.tmod 8=- ((-n) % 8):=by
   have:n=- (- n):=by omega
   rw [this,Int.neg_tmod,Int.tmod_eq_emod_of_nonneg (by omega)];omega
  refine ⟨_,_,e1,e2,by rw [IntKind.wrap_i64];omega,by rw [IntKind.wrap_i64];omega,?_,?_,by omega⟩
  ·have hz:itOk n=false:=by simp only [itOk,decide_eq_false_iff_not];omega
   rw [hz]
   symm
   rw [Bool.and_eq_false_iff]
   rcases Int.lt_or_le ((-n) / 8) 1 with h1 | h1
   ·right;rw [inB8_false];omega
   ·left;rw [inB8_false];omega
  ·intro hz
   simp only [itOk,decide_eq_true_eq] at hz
   omega
 ·have e1:n.tdiv 8=n / 8:=Int.tdiv_eq_ediv_of_nonneg hn
  have e2:n.tmod 8=n % 8:=Int.tmod_eq_emod_of_nonneg hn
  refine ⟨_,_,e1,e2,by rw [IntKind.wrap_i64];omega,by rw [IntKind.wrap_i64];omega,?_,fun _=>⟨rfl,rfl⟩,fun _=>⟨rfl,rfl⟩⟩
  rw [Bool.eq_iff_iff,Bool.and_eq_true,inB8_true,inB8_true]
  simp only [itOk,decide_eq_true_eq]
  omega

theorem implItemAt_is (n:Int) (hn:-9223372036854775808≤n∧n≤9223372036854775807) (w:World):Calls Tryz.prog 172 #[.int .i64 n] w fun e w'=>e=.returned (atV n)∧w=w':=by
 obtain ⟨q,r,e1,e2,u1,u2,hOk,hYes,_⟩:=quo8 n hn
 clear hn
 have kT:=isThread8 q
 have kP:=isPlace8 r
 cases hA:inB8 q 0 2
 ·rw [atV_no (by rw [hOk,hA];rfl)]
  rw [hA] at kT
  clear hA hOk hYes
  go_enter Tryz.func172,Tryz.ntmps172
  go_wp2_with fail
  refine (kT _).mono ?_
  rintro e w1 ⟨rfl,rfl⟩
  go_wp2
  go_ret3
  exact ⟨rfl,rfl⟩
 ·cases hB:inB8 r 0 6
  ·rw [atV_no (by rw [hOk,hA,hB];rfl)]
   rw [hA] at kT
   rw [hB] at kP
   clear hA hB hOk hYes
   go_enter Tryz.func172,Tryz.ntmps172
   go_wp2_with fail
   refine (kT _).mono ?_
   rintro e w1 ⟨rfl,rfl⟩
   go_wp2_with fail
   refine (kP _).mono ?_
   rintro e w1 ⟨rfl,rfl⟩
   go_wp2
   go_ret3
   exact ⟨rfl,rfl⟩
  ·have hz:itOk n=true:=by rw [hOk,hA,hB];rfl
   rw [atV_yes hz]
   obtain ⟨f1,f2⟩:=hYes hz
   rw [hA] at kT
   rw [hB] at kP
   rw [← f1,← f2]
   clear hA hB hOk hYes hz f1 f2
   go_enter Tryz.func172,Tryz.ntmps172
   go_wp2_with fail
   refine (kT _).mono ?_
   rintro e w1 ⟨rfl,rfl⟩
   go_wp2_with fail
   refine (kP _).mono ?_
   rintro e w1 ⟨rfl,rfl⟩
   go_wp2
   go_ret3
   exact ⟨rfl,rfl⟩

theorem isItem_is (n:Int) (hn:-9223372036854775808≤n∧n≤9223372036854775807) (w:World):Calls Tryz.prog 157 #[.int .i64 n] w fun e w'=>e=.returned (.bool (itOk n))∧w=w':=by
 have kO:=implItemAt_is n hn
 clear hn
 cases hA:itOk n
 ·rw [atV_no hA] at kO
  clear hA
  go_enter Tryz.func157,Tryz.ntmps157
  go_wp2_with fail
  refine (kO _).mono ?_
  rintro e w1 ⟨rfl,rfl⟩
  go_wp2
  go_ret
  exact ⟨rfl,rfl⟩
 ·rw [atV_yes hA] at kO
  clear hA
  go_enter Tryz.func157,Tryz.ntmps157
  go_wp2_with fail
  refine (kO _).mono ?_
  rintro e w1 ⟨rfl,rfl⟩
  go_wp2
  go_ret
  exact ⟨rfl,rfl⟩

theorem in_wf8 {n:Int} (h:(Lit.int .i64 n).wf=true):-9223372036854775808≤n∧n≤9223372036854775807:=by
 have h1:IntKind.i64.min=-9223372036854775808:=by decide
 have h2:IntKind.i64.max=9223372036854775807:=by decide
 simp [Lit.wf,h1,h2] at h
 omega
end Go.Proofs.YtdopgkbegjfhjaaGreatDoor
