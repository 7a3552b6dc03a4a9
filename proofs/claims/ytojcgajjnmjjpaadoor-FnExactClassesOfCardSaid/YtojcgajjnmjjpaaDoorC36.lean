/-
  Joined: ClsP, ClsQ, Lists, PackRead, Num, NumOK, PackList, NumbersPlain, PackListI, SmL.
-/
import Derived.Test.YtojcgajjnmjjpaaDoorC31

namespace Go.Proofs.YtojcgajjnmjjpaaDoor
set_option maxRecDepth 100000
set_option maxHeartbeats 16000000
open Go.RowKit
set_option linter.unusedVariables false
set_option linter.unusedSimpArgs false

def rnF (rows:List (List I3)):Nat→V4→List (List Int)
 | 0,_=>[]
 | f+1,m=>if enabM rows m 3=[] then [[]] else ((enabM rows m 3).map fun k=>(rnF rows f (goM rows m k).1).map (k::·)).flatten
def ddG (out:List (List Int)) (x:List Int):List (List Int):=if x ∈ out then out else out++[x]
def addG (o:List (List Int) × Bool) (x:List Int):List (List Int) × Bool:=if o.2 then (if x ∈ o.1 then o else (o.1++[x],decide (o.1.length<300))) else o
theorem dd_more:∀ (xs out:List (List Int)),out.length≤(xs.foldl ddG out).length
 | [],_=>Nat.le_refl _
 | x::xs,out=>by
  refine Nat.le_trans ?_ (dd_more xs (ddG out x))
  unfold ddG
  split
  ·exact Nat.le_refl _
  ·simp
theorem add_stop:∀ (xs out:List (List Int)),xs.foldl addG (out,false)=(out,false)
 | [],_=>rfl
 | x::xs,out=>add_stop xs out
theorem add_dd:∀ (xs out:List (List Int)),out.length≤300→((xs.foldl addG (out,true)).2=true→(xs.foldl addG (out,true)).1=xs.foldl ddG out∧(xs.foldl ddG out).length≤300)∧((xs.foldl addG (out,true)).2=false→300<(xs.foldl ddG out).length)
 | [],out,h=>⟨fun _=>⟨rfl,h⟩,fun e=>by simp at e⟩
 | x::xs,out,h=>by
  rw [List.foldl_cons,List.foldl_cons]
  by_cases hx:x ∈ out
  ·rw [show addG (out,true) x=(out,true) by simp [addG,hx],show ddG out x=out by simp [ddG,hx]]
   exact add_dd xs out h
  ·by_cases h3:out.length<300
   ·rw [show addG (out,true) x=(out++[x],true) by simp [addG,hx,h3],show ddG out x=out++[x] by simp [ddG,hx]]
    exact add_dd xs _ (by simp;omega)
   ·rw [show addG (out,true) x=(out++[x],false) by simp [addG,hx,h3],show ddG out x=out++[x] by simp [ddG,hx],add_stop]
    refine ⟨fun e=>by simp at e,fun _=>?_⟩
    have:=dd_more xs (out++[x])
    simp at this
    omega
theorem dd_mem {x:List Int}:∀ {xs out:List (List Int)},x ∈ xs.foldl ddG out↔x ∈ out∨x ∈ xs
 | [],_=>by simp
 | y::xs,out=>by
  rw [List.foldl_cons,dd_mem (xs:=xs)]
  unfold ddG
  split
  ·rename_i h
   constructor
   ·rintro (q | q)<;>simp [q]
   ·rintro (q | q)
    ·exact .inl q
    ·rcases List.mem_cons.1 q with rfl | q
     ·exact .inl h
     ·exact .inr q
  ·simp only [List.mem_append,List.mem_cons,List.not_mem_nil,or_false]
   constructor
   ·rintro ((q | q) | q)<;>simp [q]
   ·rintro (q | q | q)<;>simp [q]
noncomputable def nfG (rows:List (List I3)) (ks:List Int):List Int:=nrmE (evsM rows zeroV ks)
noncomputable def clsG (rows:List (List I3)):List (List Int):=((rnF rows 19 zeroV).map (nfG rows)).foldl ddG []


noncomputable def gatF (rows:List (List I3)) (f:Nat) (m:V4) (ls:List Int) (o:List (List Int) × Bool):List (List Int) × Bool:=((rnF rows f m).map fun ks=>nfG rows (ls++ks)).foldl addG o
noncomputable def gatL (rows:List (List I3)) (f:Nat) (m:V4) (ls:List Int) (es:List Int) (o:List (List Int) × Bool):List (List Int) × Bool:=es.foldl (fun o k=>gatF rows f (goM rows m k).1 (ls++[k]) o) o
theorem gat_end {rows:List (List I3)} {f:Nat} {m:V4} {ls:List Int} {o:List (List Int) × Bool} (h:enabM rows m 3=[]):gatF rows (f+1) m ls o=addG o (nfG rows ls):=by
 unfold gatF
 rw [rnF,if_pos h]
 simp
theorem gat_flat {rows:List (List I3)} {f:Nat} {m:V4} {ls:List Int}:∀ (es:List Int) (o:List (List Int) × Bool),(((es.map fun k=>(rnF rows f (goM rows m k).1).map (k::·)).flatten).map fun ks=>nfG rows (ls++ks)).foldl addG o=gatL rows f m ls es o
 | [],o=>rfl
 | k::es,o=>by
  rw [List.map_cons,List.flatten_cons,List.map_append,List.foldl_append,gat_flat es]
  unfold gatL gatF
  rw [List.foldl_cons,List.map_map]
  congr 2
  simp [Function.comp_def]
theorem gat_go {rows:List (List I3)} {f:Nat} {m:V4} {ls:List Int} {o:List (List Int) × Bool} (h:enabM rows m 3≠[]):gatF rows (f+1) m ls o=gatL rows f m ls (enabM rows m 3) o:=by
 rw [← gat_flat]
 unfold gatF
 rw [rnF,if_neg h]
theorem gat_stop {rows:List (List I3)} {f:Nat} {m:V4} {ls:List Int} (out:List (List Int)):gatF rows f m ls (out,false)=(out,false):=add_stop _ _
theorem gatL_stop {rows:List (List I3)} {f:Nat} {m:V4} {ls:List Int} (out:List (List Int)):∀ es:List Int,gatL rows f m ls es (out,false)=(out,false)
 | []=>rfl
 | k::es=>by
  unfold gatL
  rw [List.foldl_cons,gat_stop]
  exact gatL_stop out es
theorem gatL_cons {rows:List (List I3)} {f:Nat} {m:V4} {ls es:List Int} {k:Int} {o:List (List Int) × Bool}:gatL rows f m ls (k::es) o=gatL rows f m ls es (gatF rows f (goM rows m k).1 (ls++[k]) o):=rfl
theorem add_room:∀ (xs out:List (List Int)),out.length≤300→(xs.foldl addG (out,true)).1.length≤301∧((xs.foldl addG (out,true)).2=true→(xs.foldl addG (out,true)).1.length≤300)
 | [],out,h=>⟨by simp;omega,fun _=>h⟩
 | x::xs,out,h=>by
  rw [List.foldl_cons]
  by_cases hx:x ∈ out
  ·rw [show addG (out,true) x=(out,true) by simp [addG,hx]]
   exact add_room xs out h
  ·by_cases h3:out.length<300
   ·rw [show addG (out,true) x=(out++[x],true) by simp [addG,hx,h3]]
    exact add_room xs _ (by simp;omega)
   ·rw [show addG (out,true) x=(out++[x],false) by simp [addG,hx,h3],add_stop]
    exact ⟨by simp;omega,fun e=>by simp at e⟩
theorem gat_room {rows:List (List I3)} {f:Nat} {m:V4} {ls:List Int} {out:List (List Int)} (h:out.length≤300):(gatF rows f m ls (out,true)).1.length≤301∧((gatF rows f m ls (out,true)).2=true→(gatF rows f m ls (out,true)).1.length≤300):=add_room _ _ h
theorem gat_all (rows:List (List I3)):((gatF rows 19 zeroV [] ([],true)).2=true→(gatF rows 19 zeroV [] ([],true)).1=clsG rows∧(clsG rows).length≤300)∧((gatF rows 19 zeroV [] ([],true)).2=false→300<(clsG rows).length):=by
 have h:=add_dd ((rnF rows 19 zeroV).map (nfG rows)) [] (by simp)
 exact h


def NumsAt (s:ByteArray):Nat→List Nat→Nat→Prop
 | p,[],q=>q=p
 | p,z::zs,q=>∃ k,Num s p z k∧NumsAt s (p+k) zs q
theorem numsAt_prefix {s:ByteArray}:∀ {zs ys:List Nat} {p q r:Nat},NumsAt s p zs q→NumsAt s p ys r→zs.length≤ys.length→∃ rest,ys=zs++rest∧NumsAt s q rest r
 | [],ys,p,q,r,h,g,_=>by
  obtain rfl:q=p:=h
  exact ⟨ys,rfl,g⟩
 | z::zs,[],_,_,_,_,_,hl=>by simp at hl
 | z::zs,y::ys,p,q,r,h,g,hl=>by
  obtain ⟨j,hj,hr⟩:=h
  obtain ⟨k,hk,gr⟩:=g
  obtain ⟨rfl,rfl⟩:=hj.only hk
  obtain ⟨rest,rfl,h'⟩:=numsAt_prefix hr gr (by simpa using hl)
  exact ⟨rest,rfl,h'⟩
def Listed (s:ByteArray) (zs:List Nat):Prop:=∃ k,Num s 0 zs.length k∧zs.length≤4096∧NumsAt s k zs s.size
theorem Listed.only {s:ByteArray} {zs ys:List Nat} (h:Listed s zs) (g:Listed s ys):zs=ys:=by
 obtain ⟨k,hk,_,hz⟩:=h
 obtain ⟨j,hj,_,hy⟩:=g
 obtain ⟨hl,rfl⟩:=hk.only hj
 obtain ⟨rest,rfl,_⟩:=numsAt_prefix hz hy (by omega)
 have:rest=[]:=by
  have e:=hl
  simp at e
  exact e
 rw [this,List.append_nil]
theorem listed_of {s:ByteArray} {n k q:Nat} {zs:List Nat} (h:Num s 0 n k) (hn:n≤4096) (hz:NumsAt s k zs q) (hl:zs.length=n) (hq:q=s.size):Listed s zs:=by
 subst hl hq
 exact ⟨k,h,hn,hz⟩


def bytesAt (s:ByteArray) (p:Nat) (xs:List Int):Prop:=p+xs.length≤s.size∧∀ i,i<xs.length→(bt s (p+i):Int)=xs.getD i 0
theorem bytesAt_left {s:ByteArray} {p:Nat} {xs ys:List Int} (h:bytesAt s p (xs++ys)):bytesAt s p xs:=by
 obtain ⟨h1,h2⟩:=h
 rw [List.length_append] at h1
 refine ⟨by omega,fun i hi=>?_⟩
 rw [h2 i (by rw [List.length_append];omega)]
 simp [List.getD,List.getElem?_append_left hi]
theorem bytesAt_right {s:ByteArray} {p:Nat} {xs ys:List Int} (h:bytesAt s p (xs++ys)):bytesAt s (p+xs.length) ys:=by
 obtain ⟨h1,h2⟩:=h
 rw [List.length_append] at h1
 refine ⟨by omega,fun i hi=>?_⟩
 have:=h2 (xs.length+i) (by rw [List.length_append];omega)
 rw [show p+xs.length+i=p+(xs.length+i) by omega,this]
 simp [List.getD,List.getElem?_append_right (show xs.length≤xs.length+i by omega)]

theorem num_of_bytes {s:ByteArray} {p n:Nat} (hn:n≤999999999) (h:bytesAt s p (pack n)):Num s p n (pack n).length:=by
 obtain ⟨hs,hb⟩:=h
 by_cases h1:n<128
 ·rw [pack_small h1] at hs hb ⊢
  have b0:=hb 0 (by simp)
  simp at b0 hs
  refine ⟨⟨by simp,by simp,by simpa using hs,fun i hi=>by simp at hi,by simp;omega⟩,by simp,?_,hn⟩
  simp only [List.length_cons,List.length_nil,val]
  omega
 by_cases h2:n<16384
 ·rw [pack2 (by omega) h2] at hs hb ⊢
  have b0:=hb 0 (by simp)
  have b1:=hb 1 (by simp)
  simp at b0 b1 hs
  refine ⟨⟨by simp,by simp,by simpa using hs,fun i hi=>?_,?_⟩,?_,?_,hn⟩
  ·simp at hi;obtain rfl:i=0:=by omega
   simp;omega
  ·simp only [List.length_cons,List.length_nil,show p+(0+1+1) - 1=p+1 by omega];omega
  ·simp only [List.length_cons,List.length_nil,show p+(0+1+1) - 1=p+1 by omega];omega
  ·simp only [List.length_cons,List.length_nil,val];omega
 by_cases h3:n<2097152
 ·rw [pack3 (by omega) h3] at hs hb ⊢
  have b0:=hb 0 (by simp)
  have b1:=hb 1 (by simp)
  have b2:=hb 2 (by simp)
  simp at b0 b1 b2 hs
  refine ⟨⟨by simp,by simp,by simpa using hs,fun i hi=>?_,?_⟩,?_,?_,hn⟩
  ·simp at hi
   have:i=0∨i=1:=by omega
   rcases this with rfl | rfl
   ·simp;omega
   ·omega
  ·simp only [List.length_cons,List.length_nil,show p+(0+1+1+1) - 1=p+2 by omega];omega
  ·simp only [List.length_cons,List.length_nil,show p+(0+1+1+1) - 1=p+2 by omega];omega
  ·simp only [List.length_cons,List.length_nil,val];omega
 by_cases h4:n<268435456
 ·rw [pack4 (by omega) h4] at hs hb ⊢
  have b0:=hb 0 (by simp)
  have b1:=hb 1 (by simp)
  have b2:=hb 2 (by simp)
  have b3:=hb 3 (by simp)
  simp at b0 b1 b2 b3 hs
  refine ⟨⟨by simp,by simp,by simpa using hs,fun i hi=>?_,?_⟩,?_,?_,hn⟩
  ·simp at hi
   have:i=0∨i=1∨i=2:=by omega
   rcases this with rfl | rfl | rfl
   ·simp;omega
   ·omega
   ·omega
  ·simp only [List.length_cons,List.length_nil,show p+(0+1+1+1+1) - 1=p+3 by omega];omega
  ·simp only [List.length_cons,List.length_nil,show p+(0+1+1+1+1) - 1=p+3 by omega];omega
  ·simp only [List.length_cons,List.length_nil,val];omega
 ·rw [pack5 (by omega)] at hs hb ⊢
  have b0:=hb 0 (by simp)
  have b1:=hb 1 (by simp)
  have b2:=hb 2 (by simp)
  have b3:=hb 3 (by simp)
  have b4:=hb 4 (by simp)
  simp at b0 b1 b2 b3 b4 hs
  refine ⟨⟨by simp,by simp,by simpa using hs,fun i hi=>?_,?_⟩,?_,?_,hn⟩
  ·simp at hi
   have:i=0∨i=1∨i=2∨i=3:=by omega
   rcases this with rfl | rfl | rfl | rfl
   ·simp;omega
   ·omega
   ·omega
   ·omega
  ·simp only [List.length_cons,List.length_nil,show p+(0+1+1+1+1+1) - 1=p+4 by omega];omega
  ·simp only [List.length_cons,List.length_nil,show p+(0+1+1+1+1+1) - 1=p+4 by omega];omega
  ·simp only [List.length_cons,List.length_nil,val];omega

def packsN (zs:List Nat):List Int:=zs.flatMap fun z=>pack z
theorem numsAt_of_bytes {s:ByteArray}:∀ {zs:List Nat} {p:Nat},(∀ z ∈ zs,z≤999999999)→bytesAt s p (packsN zs)→NumsAt s p zs (p+(packsN zs).length)
 | [],p,_,_=>by simp [packsN,NumsAt]
 | z::zs,p,hz,h=>by
  have e:packsN (z::zs)=pack z++packsN zs:=by simp [packsN]
  rw [e] at h ⊢
  refine ⟨_,num_of_bytes (hz z (by simp)) (bytesAt_left h),?_⟩
  have:=numsAt_of_bytes (fun y hy=>hz y (by simp [hy])) (bytesAt_right h)
  rw [List.length_append,← Nat.add_assoc]
  exact this

theorem bt_str (xs:List Int) (h:∀ x ∈ xs,0≤x∧x≤255) (i:Nat) (hi:i<xs.length):(bt (strOfNums xs) i:Int)=xs.getD i 0:=by
 have hs:i<(strOfNums xs).size:=by rw [strOfNums_size];exact hi
 unfold bt
 rw [dif_pos hs]
 have hx:=h xs[i] (List.getElem_mem hi)
 have e:((strOfNums xs)[i]'hs)=UInt8.ofNat xs[i].toNat:=by
  show (strOfNums xs).data[i]'(by simpa using hs)=_
  simp [strOfNums]
 rw [e]
 simp [List.getElem?_eq_getElem hi]
 omega
theorem bytesAt_str (xs:List Int) (h:∀ x ∈ xs,0≤x∧x≤255):bytesAt (strOfNums xs) 0 xs:=
 ⟨by rw [strOfNums_size];omega,fun i hi=>by rw [Nat.zero_add];exact bt_str xs h i hi⟩


theorem appendNumber_any (base m:Nat) (v:Value) (xs:List Int) (n:Nat) (w:World) (hn:n≤999999999) (hown:w.ownsRow base 5 1 v m (u8s xs)) (hb:base≤w.heap.size) (hm:m≤1099511627776) :
  Calls Tryd.prog 59 #[v,.int .i64 n] w fun e w'=>∃ v',e=.returned v'∧w'.ownsRow base 5 1 v' (m+(pack n).length) (u8s (xs++pack n))∧Below base w w':=by
 obtain ⟨i0,hi,hz0,hz1,hz2⟩:=info_parts info_u8
 go_enter Tryd.func59,Tryd.ntmps59
 go_wp2
 go_loopw [0,1] (fun sv si wr=>∃ (k:Nat) (ys:List Int),k≤999999999∧si=.int .i64 k∧wr.ownsRow base 5 1 sv (m+ys.length) (u8s (xs++ys))∧Hid (ys++pack k=pack n)∧Below base w wr) (fun _ si _=>(intOf si).toNat)
 case atStart=>exact ⟨n,[],hn,rfl,by simpa using hown,by simp [Hid],Below.refl _ _⟩
 case round =>
  obtain ⟨k,ys,hk,rfl,ho,HY,hbel⟩:=hrel
  have hlen:ys.length≤4:=by
   have h1:=congrArg List.length HY.out
   have h2:=pack_len k
   have h3:=pack_len n
   simp at h1;omega
  have hbw:base≤wr.heap.size:=by have:=hbel.size;omega
  by_cases hlt:128≤k
  ·go_wp2_with (at_builtin;refine wpList_append_own _ rfl _ _ 107 rfl base 5 i0 (.int .u8 0) 1 1 Tryd.underlying107 hi hz0 hz1 hz2 rfl (by decide) _ _ _ rfl (ho.alloc _) ⟨wr.heap.size,0,none⟩ 1 1 [.int .u8 ((k:Int) % 128+128)] rfl rfl (cell_one_new _ _ _) (one_u8 _) ?c3 ?c4 ?c5 ?_)
   case c3=>unfold maxLen;omega
   case c4=>omega
   case c5=>simp;omega
   intro v' w1 hown' hgrow _
   have R:w1.ownsRow base 5 1 v' (m+(ys++[(k:Int) % 128+128]).length) (u8s (xs++(ys++[(k:Int) % 128+128]))):=by simpa [Nat.add_assoc] using hown'
   have hb1:Below base w w1:=(hbel.alloc hbw _).grown hgrow (by simp;omega) (fun j hj=>(ho.lt _ hj).1)
   clear hown' hgrow ho
   go_wp2
   go_roundw
   case rel=>exact ⟨k / 128,ys++[(k:Int) % 128+128],by omega,by go_num,R,by rw [Hid,List.append_assoc,List.singleton_append,← pack_step hlt (by omega)];exact HY.out,hb1⟩
   case measure=>simp [intOf];omega
  ·go_wp2_with (at_builtin;refine wpList_append_own _ rfl _ _ 107 rfl base 5 i0 (.int .u8 0) 1 1 Tryd.underlying107 hi hz0 hz1 hz2 rfl (by decide) _ _ _ rfl (ho.alloc _) ⟨wr.heap.size,0,none⟩ 1 1 [.int .u8 (k:Int)] rfl rfl (cell_one_new _ _ _) (one_u8 _) ?d3 ?d4 ?d5 ?_)
   case d3=>unfold maxLen;omega
   case d4=>omega
   case d5=>simp;omega
   intro v' w1 hown' hgrow _
   have hb1:Below base w w1:=(hbel.alloc hbw _).grown hgrow (by simp;omega) (fun j hj=>(ho.lt _ hj).1)
   have hp:pack n=ys++[(k:Int)]:=by rw [← HY.out,pack_small (by omega)]
   have R:w1.ownsRow base 5 1 v' (m+(pack n).length) (u8s (xs++pack n)):=by rw [hp];simpa [Nat.add_assoc] using hown'
   clear hown' hgrow ho hp HY
   go_wp2
   go_ret
   exact ⟨v',rfl,R,hb1⟩


theorem numberOK_yes (n:Int) (w:World) (h:0≤n∧n≤999999999):Calls Tryd.prog 60 #[.int .i64 n] w fun e w'=>e=.returned (.bool true)∧w=w':=by
 obtain ⟨h1,h2⟩:=h
 go_enter Tryd.func60,Tryd.ntmps60
 go_wp2
 go_ret
 exact ⟨rfl,rfl⟩
theorem numberOK_no (n:Int) (w:World) (h:¬ (0≤n∧n≤999999999)):Calls Tryd.prog 60 #[.int .i64 n] w fun e w'=>e=.returned (.bool false)∧w=w':=by
 by_cases h1:0≤n
 ·have h2:decide (n≤999999999)=false:=by simp;omega
  clear h
  go_enter Tryd.func60,Tryd.ntmps60
  go_wp2
  go_ret
  exact ⟨rfl,rfl⟩
 ·clear h
  go_enter Tryd.func60,Tryd.ntmps60
  go_wp2
  go_ret
  exact ⟨rfl,rfl⟩


def allOk (zs:List Int):Prop:=∀ z ∈ zs,0≤z∧z≤999999999
def packs (zs:List Int):List Int:=zs.flatMap fun z=>pack z.toNat
def packL (zs:List Int):List Int:=pack zs.length++packs zs

theorem packs_len:∀ zs:List Int,(packs zs).length≤5*zs.length
 | []=>by simp [packs]
 | z::zs=>by
  have h:=packs_len zs
  have h2:=(pack_len z.toNat).2
  simp only [packs,List.flatMap_cons,List.length_append,List.length_cons] at h ⊢
  omega
theorem packs_snoc (zs:List Int) (k:Nat) (h:k<zs.length):packs (zs.take (k+1))=packs (zs.take k)++pack (zs.getD k 0).toNat:=by
 have g:zs.getD k 0=zs[k]:=by simp [List.getElem?_eq_getElem h]
 rw [g,List.take_succ_eq_append_getElem h]
 unfold packs
 rw [List.flatMap_append]
 simp only [List.flatMap_cons,List.flatMap_nil,List.append_nil]
theorem getD_mem {zs:List Int} {k:Nat} (h:k<zs.length):zs.getD k 0 ∈ zs:=by
 simp [List.getElem?_eq_getElem h]


theorem nats_of {zs:List Int} (h:∀ z ∈ zs,0≤z∧z≤999999999):∃ ns:List Nat,zs=ns.map (fun z:Nat=>(z:Int))∧∀ n ∈ ns,n≤999999999:=by
 refine ⟨zs.map Int.toNat,?_,?_⟩
 ·rw [List.map_map]
  conv=>lhs;rw [← List.map_id zs]
  apply List.map_congr_left
  intro z hz
  have:=h z hz
  simp only [id,Function.comp]
  omega
 ·intro n hn
  obtain ⟨z,hz,rfl⟩:=List.mem_map.1 hn
  have:=h z hz
  omega
theorem packL_nats (ns:List Nat):packL (ns.map (fun z:Nat=>(z:Int)))=pack ns.length++packsN ns:=by
 unfold packL packs packsN
 rw [List.length_map]
 congr 1
 induction ns with
 | nil=>rfl
 | cons n ns ih=>simp [List.flatMap_cons,ih]
theorem packsN_byte {ns:List Nat} (h:∀ n ∈ ns,n≤999999999):∀ x ∈ packsN ns,0≤x∧x≤255:=by
 intro x hx
 obtain ⟨n,hn,hx⟩:=List.mem_flatMap.1 hx
 exact pack_byte n (by have:=h n hn;omega) x hx
theorem packL_byte {ns:List Nat} (h:∀ n ∈ ns,n≤999999999) (hl:ns.length≤4096):∀ x ∈ pack ns.length++packsN ns,0≤x∧x≤255:=by
 intro x hx
 rcases List.mem_append.1 hx with hx | hx
 ·exact pack_byte _ (by omega) x hx
 ·exact packsN_byte h x hx
theorem listed_pack {ns:List Nat} (h:∀ n ∈ ns,n≤999999999) (hl:ns.length≤4096):Listed (strOfNums (pack ns.length++packsN ns)) ns:=by
 have hb:=bytesAt_str _ (packL_byte h hl)
 have hn:=num_of_bytes (by omega) (bytesAt_left hb)
 refine listed_of hn hl (numsAt_of_bytes h ?_) rfl ?_
 ·simpa using bytesAt_right hb
 ·rw [strOfNums_size,List.length_append]


theorem okTo_succ {zs:List Int} {k:Nat} (h:allOk (zs.take k)) (hk:k<zs.length) (hx:0≤zs.getD k 0∧zs.getD k 0≤999999999):allOk (zs.take (k+1)):=by
 have g:zs.getD k 0=zs[k]:=by simp [List.getElem?_eq_getElem hk]
 rw [List.take_succ_eq_append_getElem hk]
 intro z hz
 rcases List.mem_append.1 hz with hz | hz
 ·exact h z hz
 ·simp at hz;subst hz;rw [← g];exact hx
theorem okTo_zero (zs:List Int):allOk (zs.take 0):=by intro z hz;simp at hz

theorem implPackList_any (a:Option Addr) (len cap:Nat) (zs:List Int) (w:World) (h:Ints .i64 w a len cap zs) (hlen:len≤4096) :
  Calls Tryd.prog 30 #[.slice a len cap] w fun e w'=>((allOk zs∧e=.returned (.tuple #[.string (strOfNums (packL zs)),.int .i64 0]))∨(¬ allOk zs∧e=.returned (.tuple #[.string ByteArray.empty,.int .i64 4])))∧Below w.heap.size w w':=by
 obtain ⟨hl,hlc,hcm,hcase⟩:=h
 unfold maxLen at hcm
 rcases hcase with h0 | ⟨b,off,rfl,hblt,hcell⟩
 ·subst h0
  have hz:zs=[]:=by simpa using hl
  subst hz
  go_enter Tryd.func30,Tryd.ntmps30
  go_wp2_with fail
  refine (appendNumber_any w.heap.size 0 _ [] 0 _ (by omega) (World.ownsRow_nil _ _ _ _) (Nat.le_refl _) (by omega)).mono ?_
  rintro e w1 ⟨v',rfl,hown,hbel⟩
  have hcv:=conv_owned hown
  clear hown
  rw [List.nil_append] at hcv
  go_wp2
  refine wp_loop_rounds 1 ?_
  rw [rounds_succ]
  go_wp2
  go_ret2
  exact ⟨.inl ⟨(fun z hz=>by cases hz),rfl⟩,hbel⟩
 ·go_enter Tryd.func30,Tryd.ntmps30
  go_wp2_with fail
  refine (appendNumber_any w.heap.size 0 _ [] len _ (by omega) (World.ownsRow_nil _ _ _ _) (Nat.le_refl _) (by omega)).mono ?_
  rintro e w1 ⟨v',rfl,hown,hb1⟩
  rw [List.nil_append,Nat.zero_add] at hown
  go_wp2
  go_loopw [4,15] (fun sv si wr=>∃ k:Nat,k≤len∧si=.int .i64 k∧allOk (zs.take k)∧wr.ownsRow w.heap.size 5 1 sv (pack len++packs (zs.take k)).length (u8s (pack len++packs (zs.take k)))∧Below w.heap.size w wr) (fun _ si _=>len - (intOf si).toNat)
  case atStart=>exact ⟨0,by omega,rfl,okTo_zero zs,by simpa [packs] using hown,hb1⟩
  case round =>
   obtain ⟨k,hk,rfl,hto,ho,hbel⟩:=hrel
   by_cases hlt:k<len
   ·have hc:wr.cell? ⟨b,off+k,none⟩=some (.int .i64 (zs.getD k 0)):=by rw [hbel.cell (p:=⟨b,off+k,none⟩) hblt];exact hcell k hlt
    have hsn:=packs_snoc zs k (by omega)
    have hpl:=packs_len (zs.take k)
    have hp5:=(pack_len len).2
    have htl:(zs.take k).length≤4096:=by simp;omega
    have hm:(pack len++packs (zs.take k)).length≤1099511627776:=by rw [List.length_append];omega
    by_cases hx:0≤zs.getD k 0∧zs.getD k 0≤999999999
    ·have hto':=okTo_succ hto (by omega) hx
     generalize zs.getD k 0=x at hc hx hsn
     obtain ⟨n,rfl⟩:=Int.eq_ofNat_of_zero_le hx.1
     have hn:n≤999999999:=by omega
     rw [Int.toNat_natCast] at hsn
     have R:Hid (pack len++packs (zs.take k)++pack n=pack len++packs (zs.take (k+1))):=by rw [Hid,hsn,List.append_assoc]
     clear hsn hpl hp5 htl
     generalize pack len++packs (zs.take k)=ys at ho hm R
     have hbw:=hbel.size
     go_wp2_with (first | (go_at_call 60;refine (numberOK_yes _ _ hx).mono ?_;rintro e w' ⟨rfl,rfl⟩) | (go_at_call 59;refine (appendNumber_any w.heap.size _ _ ys n _ hn ho hbw hm).mono ?_;rintro e w2 ⟨v2,rfl,hown2,hb2⟩))
     rw [R.out,← List.length_append,R.out] at hown2
     go_roundw
     case rel=>exact ⟨k+1,by omega,by go_num,hto',hown2,hbel.trans hb2⟩
     case measure=>simp [intOf];omega
    ·have hbad:¬ allOk zs:=fun h=>hx (h _ (getD_mem (by omega)))
     generalize zs.getD k 0=x at hc hx hsn
     clear hsn hpl hp5 htl hm ho
     go_wp2_with (go_at_call 60;refine (numberOK_no _ _ hx).mono ?_;rintro e w' ⟨rfl,rfl⟩)
     go_ret2
     exact ⟨.inr ⟨hbad,rfl⟩,hbel⟩
   ·obtain rfl:k=len:=by omega
    rw [List.take_of_length_le (Nat.le_of_eq hl)] at hto ho
    have e:pack k++packs zs=packL zs:=by unfold packL;rw [hl]
    rw [e] at ho
    have hcv:=conv_owned ho
    clear ho
    go_wp2
    go_ret2
    exact ⟨.inl ⟨hto,rfl⟩,hbel⟩


theorem ext_getDL {xs ys:List Int} (hl:xs.length=ys.length) (h:∀ i,i<xs.length→xs.getD i 0=ys.getD i 0):xs=ys:=by
 refine List.ext_getElem hl (fun i h1 h2=>?_)
 have:=h i h1
 simpa [List.getD,h1,h2] using this

theorem l05Same_is (a:Option Addr) (n c:Nat) (xs:List Int) (a':Option Addr) (n' c':Nat) (ys:List Int) (w:World) (h:Ints .i64 w a n c xs) (h':Ints .i64 w a' n' c' ys) :
  Calls Tryd.prog 50 #[.slice a n c,.slice a' n' c'] w fun e w'=>e=.returned (.bool (decide (xs=ys)))∧∃ d,w'=w.drewN d:=by
 obtain ⟨dd,hdd⟩:∃ dd,dd=decide (xs=ys):=⟨_,rfl⟩
 rw [← hdd]
 have HD:Hid (dd=decide (xs=ys)):=hdd
 clear hdd
 obtain ⟨hl,hlc,hcm,hcase⟩:=h
 obtain ⟨hl',hlc',hcm',hcase'⟩:=h'
 unfold maxLen at hcm hcm'
 by_cases hnn:n=n'
 case neg =>
  have hne:((n:Int) != (n':Int))=true:=by simp;omega
  have HF:Hid (dd=false):=by
   rw [Hid,HD.out,decide_eq_false_iff_not]
   intro e
   rw [e,hl'] at hl
   exact hnn hl.symm
  clear hcase hcase'
  go_enter Tryd.func50,Tryd.ntmps50
  go_wp2
  go_ret
  exact ⟨by rw [HF.out];rfl,0,rfl⟩
 subst hnn
 have hne:((n:Int) != (n:Int))=false:=by simp
 by_cases h0:n=0
 ·subst h0
  have HT:Hid (dd=true):=by
   rw [Hid,HD.out,decide_eq_true_iff,List.length_eq_zero_iff.1 hl,List.length_eq_zero_iff.1 hl']
  clear hcase hcase' hl hl'
  go_enter Tryd.func50,Tryd.ntmps50
  go_wp2
  refine wp_loop_rounds 1 ?_
  rw [rounds_succ]
  go_wp2
  go_ret
  exact ⟨by rw [HT.out];rfl,0,rfl⟩
 ·rcases hcase with h0' | ⟨b,off,rfl,hblt,hcell⟩
  ·exact absurd h0' h0
  rcases hcase' with h0' | ⟨b',off',rfl,hblt',hcell'⟩
  ·exact absurd h0' h0
  have HL:Hid (xs.length=n∧ys.length=n):=⟨hl,hl'⟩
  clear hl hl'
  go_enter Tryd.func50,Tryd.ntmps50
  go_wp2
  go_loopw [5] (fun si wr=>∃ k d:Nat,k≤n∧si=.int .i64 k∧Hid (∀ i,i<k→xs.getD i 0=ys.getD i 0)∧wr=w.drewN d) (fun si _=>n - (intOf si).toNat)
  case atStart=>exact ⟨0,0,by omega,rfl,fun i hi=>by omega,rfl⟩
  case round =>
   obtain ⟨k,d,hk,rfl,hH,rfl⟩:=hrel
   by_cases hlt:k<n
   ·have hc:=hcell k hlt
    have hc':=hcell' k hlt
    have hlt':(k:Int)<(n:Int):=by omega
    clear hcell hcell'
    by_cases hx:xs.getD k 0=ys.getD k 0
    ·have hH2:Hid (∀ i,i<k+1→xs.getD i 0=ys.getD i 0):=fun i hi=>by
      by_cases e:i=k
      ·subst e;exact hx
      ·exact hH.out i (by omega)
     rw [← hx] at hc'
     clear hx hH
     generalize xs.getD k 0=x at hc hc'
     have hxx:(x != x)=false:=by simp
     go_wp2
     go_quiet (fail)
     go_wp2
     go_roundw
     case rel=>exact ⟨k+1,_,by omega,by go_num,hH2,rfl⟩
     case measure=>simp [intOf];omega
    ·have HF:Hid (dd=false):=by
      rw [Hid,HD.out,decide_eq_false_iff_not]
      intro e
      rw [e] at hx
      exact hx rfl
     have hxx:(xs.getD k 0 != ys.getD k 0)=true:=by simpa using hx
     clear hx hH
     generalize xs.getD k 0=x at hc hxx
     generalize ys.getD k 0=y at hc' hxx
     go_wp2
     go_quiet (fail)
     go_wp2
     go_ret
     exact ⟨by rw [HF.out];rfl,d+nq,by simp [World.drewN];omega⟩
   ·have HT:Hid (dd=true):=by
     rw [Hid,HD.out,decide_eq_true_iff]
     have hL:=HL.out
     exact ext_getDL (by omega) (fun i hi=>hH.out i (by omega))
    clear hcell hcell' hH
    go_wp2
    go_ret
    exact ⟨by rw [HT.out];rfl,d,rfl⟩
end Go.Proofs.YtojcgajjnmjjpaaDoor
