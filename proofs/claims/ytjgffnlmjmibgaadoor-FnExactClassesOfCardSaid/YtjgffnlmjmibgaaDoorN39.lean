/-
  Joined: ClsP, ClsQ, Lists, PackRead.
-/
import Derived.Test.YtjgffnlmjmibgaaDoorN36

namespace Go.Proofs.YtjgffnlmjmibgaaDoor
set_option maxRecDepth 100000
set_option maxHeartbeats 16000000
open Go.RowKit
set_option linter.unusedVariables false
set_option linter.unusedSimpArgs false

def rnF (rows:List (List I3)):Nat→V4→List (List Int)
 | 0,_=>[]
 | f+1,m=>if enabM rows m 3=[] then [[]] else ((enabM rows m 3).map fun k=>(rnF rows f (goM rows m k).1).map (k::·)).flatten
def ddG (out:List (List Int)) (x:List Int):List (List Int):=if x ∈ out then out else out++[x]
def addG (o:List (List Int) × Bool) (x:List Int):List (List Int) × Bool:=if o.2 then (if x ∈ o.1 then o else (o.1++[x],decide (o.1.length<300))) else o
theorem dd_more:∀ (xs out:List (List Int)),out.length≤(xs.foldl ddG out).length
 | [],_=>Nat.le_refl _
 | x::xs,out=>by
  refine Nat.le_trans ?_ (dd_more xs (ddG out x))
  unfold ddG
  split
  ·exact Nat.le_refl _
  ·simp
theorem add_stop:∀ (xs out:List (List Int)),xs.foldl addG (out,false)=(out,false)
 | [],_=>rfl
 | x::xs,out=>add_stop xs out
theorem add_dd:∀ (xs out:List (List Int)),out.length≤300→((xs.foldl addG (out,true)).2=true→(xs.foldl addG (out,true)).1=xs.foldl ddG out∧(xs.foldl ddG out).length≤300)∧((xs.foldl addG (out,true)).2=false→300<(xs.foldl ddG out).length)
 | [],out,h=>⟨fun _=>⟨rfl,h⟩,fun e=>by simp at e⟩
 | x::xs,out,h=>by
  rw [List.foldl_cons,List.foldl_cons]
  by_cases hx:x ∈ out
  ·rw [show addG (out,true) x=(out,true) by simp [addG,hx],show ddG out x=out by simp [ddG,hx]]
   exact add_dd xs out h
  ·by_cases h3:out.length<300
   ·rw [show addG (out,true) x=(out++[x],true) by simp [addG,hx,h3],show ddG out x=out++[x] by simp [ddG,hx]]
    exact add_dd xs _ (by simp;omega)
   ·rw [show addG (out,true) x=(out++[x],false) by simp [addG,hx,h3],show ddG out x=out++[x] by simp [ddG,hx],add_stop]
    refine ⟨fun e=>by simp at e,fun _=>?_⟩
    have:=dd_more xs (out++[x])
    simp at this
    omega
theorem dd_mem {x:List Int}:∀ {xs out:List (List Int)},x ∈ xs.foldl ddG out↔x ∈ out∨x ∈ xs
 | [],_=>by simp
 | y::xs,out=>by
  rw [List.foldl_cons,dd_mem (xs:=xs)]
  unfold ddG
  split
  ·rename_i h
   constructor
   ·rintro (q | q)<;>simp [q]
   ·rintro (q | q)
    ·exact .inl q
    ·rcases List.mem_cons.1 q with rfl | q
     ·exact .inl h
     ·exact .inr q
  ·simp only [List.mem_append,List.mem_cons,List.not_mem_nil,or_false]
   constructor
   ·rintro ((q | q) | q)<;>simp [q]
   ·rintro (q | q | q)<;>simp [q]
noncomputable def nfG (rows:List (List I3)) (ks:List Int):List Int:=nrmE (evsM rows zeroV ks)
noncomputable def clsG (rows:List (List I3)):List (List Int):=((rnF rows 19 zeroV).map (nfG rows)).foldl ddG []


noncomputable def gatF (rows:List (List I3)) (f:Nat) (m:V4) (ls:List Int) (o:List (List Int) × Bool):List (List Int) × Bool:=((rnF rows f m).map fun ks=>nfG rows (ls++ks)).foldl addG o
noncomputable def gatL (rows:List (List I3)) (f:Nat) (m:V4) (ls:List Int) (es:List Int) (o:List (List Int) × Bool):List (List Int) × Bool:=es.foldl (fun o k=>gatF rows f (goM rows m k).1 (ls++[k]) o) o
theorem gat_end {rows:List (List I3)} {f:Nat} {m:V4} {ls:List Int} {o:List (List Int) × Bool} (h:enabM rows m 3=[]):gatF rows (f+1) m ls o=addG o (nfG rows ls):=by
 unfold gatF
 rw [rnF,if_pos h]
 simp
theorem gat_flat {rows:List (List I3)} {f:Nat} {m:V4} {ls:List Int}:∀ (es:List Int) (o:List (List Int) × Bool),(((es.map fun k=>(rnF rows f (goM rows m k).1).map (k::·)).flatten).map fun ks=>nfG rows (ls++ks)).foldl addG o=gatL rows f m ls es o
 | [],o=>rfl
 | k::es,o=>by
  rw [List.map_cons,List.flatten_cons,List.map_append,List.foldl_append,gat_flat es]
  unfold gatL gatF
  rw [List.foldl_cons,List.map_map]
  congr 2
  simp [Function.comp_def]
theorem gat_go {rows:List (List I3)} {f:Nat} {m:V4} {ls:List Int} {o:List (List Int) × Bool} (h:enabM rows m 3≠[]):gatF rows (f+1) m ls o=gatL rows f m ls (enabM rows m 3) o:=by
 rw [← gat_flat]
 unfold gatF
 rw [rnF,if_neg h]
theorem gat_stop {rows:List (List I3)} {f:Nat} {m:V4} {ls:List Int} (out:List (List Int)):gatF rows f m ls (out,false)=(out,false):=add_stop _ _
theorem gatL_stop {rows:List (List I3)} {f:Nat} {m:V4} {ls:List Int} (out:List (List Int)):∀ es:List Int,gatL rows f m ls es (out,false)=(out,false)
 | []=>rfl
 | k::es=>by
  unfold gatL
  rw [List.foldl_cons,gat_stop]
  exact gatL_stop out es
theorem gatL_cons {rows:List (List I3)} {f:Nat} {m:V4} {ls es:List Int} {k:Int} {o:List (List Int) × Bool}:gatL rows f m ls (k::es) o=gatL rows f m ls es (gatF rows f (goM rows m k).1 (ls++[k]) o):=rfl
theorem add_room:∀ (xs out:List (List Int)),out.length≤300→(xs.foldl addG (out,true)).1.length≤301∧((xs.foldl addG (out,true)).2=true→(xs.foldl addG (out,true)).1.length≤300)
 | [],out,h=>⟨by simp;omega,fun _=>h⟩
 | x::xs,out,h=>by
  rw [List.foldl_cons]
  by_cases hx:x ∈ out
  ·rw [show addG (out,true) x=(out,true) by simp [addG,hx]]
   exact add_room xs out h
  ·by_cases h3:out.length<300
   ·rw [show addG (out,true) x=(out++[x],true) by simp [addG,hx,h3]]
    exact add_room xs _ (by simp;omega)
   ·rw [show addG (out,true) x=(out++[x],false) by simp [addG,hx,h3],add_stop]
    exact ⟨by simp;omega,fun e=>by simp at e⟩
theorem gat_room {rows:List (List I3)} {f:Nat} {m:V4} {ls:List Int} {out:List (List Int)} (h:out.length≤300):(gatF rows f m ls (out,true)).1.length≤301∧((gatF rows f m ls (out,true)).2=true→(gatF rows f m ls (out,true)).1.length≤300):=add_room _ _ h
theorem gat_all (rows:List (List I3)):((gatF rows 19 zeroV [] ([],true)).2=true→(gatF rows 19 zeroV [] ([],true)).1=clsG rows∧(clsG rows).length≤300)∧((gatF rows 19 zeroV [] ([],true)).2=false→300<(clsG rows).length):=by
 have h:=add_dd ((rnF rows 19 zeroV).map (nfG rows)) [] (by simp)
 exact h


def NumsAt (s:ByteArray):Nat→List Nat→Nat→Prop
 | p,[],q=>q=p
 | p,z::zs,q=>∃ k,Num s p z k∧NumsAt s (p+k) zs q
theorem numsAt_prefix {s:ByteArray}:∀ {zs ys:List Nat} {p q r:Nat},NumsAt s p zs q→NumsAt s p ys r→zs.length≤ys.length→∃ rest,ys=zs++rest∧NumsAt s q rest r
 | [],ys,p,q,r,h,g,_=>by
  obtain rfl:q=p:=h
  exact ⟨ys,rfl,g⟩
 | z::zs,[],_,_,_,_,_,hl=>by simp at hl
 | z::zs,y::ys,p,q,r,h,g,hl=>by
  obtain ⟨j,hj,hr⟩:=h
  obtain ⟨k,hk,gr⟩:=g
  obtain ⟨rfl,rfl⟩:=hj.only hk
  obtain ⟨rest,rfl,h'⟩:=numsAt_prefix hr gr (by simpa using hl)
  exact ⟨rest,rfl,h'⟩
def Listed (s:ByteArray) (zs:List Nat):Prop:=∃ k,Num s 0 zs.length k∧zs.length≤4096∧NumsAt s k zs s.size
theorem Listed.only {s:ByteArray} {zs ys:List Nat} (h:Listed s zs) (g:Listed s ys):zs=ys:=by
 obtain ⟨k,hk,_,hz⟩:=h
 obtain ⟨j,hj,_,hy⟩:=g
 obtain ⟨hl,rfl⟩:=hk.only hj
 obtain ⟨rest,rfl,_⟩:=numsAt_prefix hz hy (by omega)
 have:rest=[]:=by
  have e:=hl
  simp at e
  exact e
 rw [this,List.append_nil]
theorem listed_of {s:ByteArray} {n k q:Nat} {zs:List Nat} (h:Num s 0 n k) (hn:n≤4096) (hz:NumsAt s k zs q) (hl:zs.length=n) (hq:q=s.size):Listed s zs:=by
 subst hl hq
 exact ⟨k,h,hn,hz⟩


def bytesAt (s:ByteArray) (p:Nat) (xs:List Int):Prop:=p+xs.length≤s.size∧∀ i,i<xs.length→(bt s (p+i):Int)=xs.getD i 0
theorem bytesAt_left {s:ByteArray} {p:Nat} {xs ys:List Int} (h:bytesAt s p (xs++ys)):bytesAt s p xs:=by
 obtain ⟨h1,h2⟩:=h
 rw [List.length_append] at h1
 refine ⟨by omega,fun i hi=>?_⟩
 rw [h2 i (by rw [List.length_append];omega)]
 simp [List.getD,List.getElem?_append_left hi]
theorem bytesAt_right {s:ByteArray} {p:Nat} {xs ys:List Int} (h:bytesAt s p (xs++ys)):bytesAt s (p+xs.length) ys:=by
 obtain ⟨h1,h2⟩:=h
 rw [List.length_append] at h1
 refine ⟨by omega,fun i hi=>?_⟩
 have:=h2 (xs.length+i) (by rw [List.length_append];omega)
 rw [show p+xs.length+i=p+(xs.length+i) by omega,this]
 simp [List.getD,List.getElem?_append_right (show xs.length≤xs.length+i by omega)]

theorem num_of_bytes {s:ByteArray} {p n:Nat} (hn:n≤999999999) (h:bytesAt s p (pack n)):Num s p n (pack n).length:=by
 obtain ⟨hs,hb⟩:=h
 by_cases h1:n<128
 ·rw [pack_small h1] at hs hb ⊢
  have b0:=hb 0 (by simp)
  simp at b0 hs
  refine ⟨⟨by simp,by simp,by simpa using hs,fun i hi=>by simp at hi,by simp;omega⟩,by simp,?_,hn⟩
  simp only [List.length_cons,List.length_nil,val]
  omega
 by_cases h2:n<16384
 ·rw [pack2 (by omega) h2] at hs hb ⊢
  have b0:=hb 0 (by simp)
  have b1:=hb 1 (by simp)
  simp at b0 b1 hs
  refine ⟨⟨by simp,by simp,by simpa using hs,fun i hi=>?_,?_⟩,?_,?_,hn⟩
  ·simp at hi;obtain rfl:i=0:=by omega
   simp;omega
  ·simp only [List.length_cons,List.length_nil,show p+(0+1+1) - 1=p+1 by omega];omega
  ·simp only [List.length_cons,List.length_nil,show p+(0+1+1) - 1=p+1 by omega];omega
  ·simp only [List.length_cons,List.length_nil,val];omega
 by_cases h3:n<2097152
 ·rw [pack3 (by omega) h3] at hs hb ⊢
  have b0:=hb 0 (by simp)
  have b1:=hb 1 (by simp)
  have b2:=hb 2 (by simp)
  simp at b0 b1 b2 hs
  refine ⟨⟨by simp,by simp,by simpa using hs,fun i hi=>?_,?_⟩,?_,?_,hn⟩
  ·simp at hi
   have:i=0∨i=1:=by omega
   rcases this with rfl | rfl
   ·simp;omega
   ·omega
  ·simp only [List.length_cons,List.length_nil,show p+(0+1+1+1) - 1=p+2 by omega];omega
  ·simp only [List.length_cons,List.length_nil,show p+(0+1+1+1) - 1=p+2 by omega];omega
  ·simp only [List.length_cons,List.length_nil,val];omega
 by_cases h4:n<268435456
 ·rw [pack4 (by omega) h4] at hs hb ⊢
  have b0:=hb 0 (by simp)
  have b1:=hb 1 (by simp)
  have b2:=hb 2 (by simp)
  have b3:=hb 3 (by simp)
  simp at b0 b1 b2 b3 hs
  refine ⟨⟨by simp,by simp,by simpa using hs,fun i hi=>?_,?_⟩,?_,?_,hn⟩
  ·simp at hi
   have:i=0∨i=1∨i=2:=by omega
   rcases this with rfl | rfl | rfl
   ·simp;omega
   ·omega
   ·omega
  ·simp only [List.length_cons,List.length_nil,show p+(0+1+1+1+1) - 1=p+3 by omega];omega
  ·simp only [List.length_cons,List.length_nil,show p+(0+1+1+1+1) - 1=p+3 by omega];omega
  ·simp only [List.length_cons,List.length_nil,val];omega
 ·rw [pack5 (by omega)] at hs hb ⊢
  have b0:=hb 0 (by simp)
  have b1:=hb 1 (by simp)
  have b2:=hb 2 (by simp)
  have b3:=hb 3 (by simp)
  have b4:=hb 4 (by simp)
  simp at b0 b1 b2 b3 b4 hs
  refine ⟨⟨by simp,by simp,by simpa using hs,fun i hi=>?_,?_⟩,?_,?_,hn⟩
  ·simp at hi
   have:i=0∨i=1∨i=2∨i=3:=by omega
   rcases this with rfl | rfl | rfl | rfl
   ·simp;omega
   ·omega
   ·omega
   ·omega
  ·simp only [List.length_cons,List.length_nil,show p+(0+1+1+1+1+1) - 1=p+4 by omega];omega
  ·simp only [List.length_cons,List.length_nil,show p+(0+1+1+1+1+1) - 1=p+4 by omega];omega
  ·simp only [List.length_cons,List.length_nil,val];omega

def packsN (zs:List Nat):List Int:=zs.flatMap fun z=>pack z
theorem numsAt_of_bytes {s:ByteArray}:∀ {zs:List Nat} {p:Nat},(∀ z ∈ zs,z≤999999999)→bytesAt s p (packsN zs)→NumsAt s p zs (p+(packsN zs).length)
 | [],p,_,_=>by simp [packsN,NumsAt]
 | z::zs,p,hz,h=>by
  have e:packsN (z::zs)=pack z++packsN zs:=by simp [packsN]
  rw [e] at h ⊢
  refine ⟨_,num_of_bytes (hz z (by simp)) (bytesAt_left h),?_⟩
  have:=numsAt_of_bytes (fun y hy=>hz y (by simp [hy])) (bytesAt_right h)
  rw [List.length_append,← Nat.add_assoc]
  exact this

theorem bt_str (xs:List Int) (h:∀ x ∈ xs,0≤x∧x≤255) (i:Nat) (hi:i<xs.length):(bt (strOfNums xs) i:Int)=xs.getD i 0:=by
 have hs:i<(strOfNums xs).size:=by rw [strOfNums_size];exact hi
 unfold bt
 rw [dif_pos hs]
 have hx:=h xs[i] (List.getElem_mem hi)
 have e:((strOfNums xs)[i]'hs)=UInt8.ofNat xs[i].toNat:=by
  show (strOfNums xs).data[i]'(by simpa using hs)=_
  simp [strOfNums]
 rw [e]
 simp [List.getElem?_eq_getElem hi]
 omega
theorem bytesAt_str (xs:List Int) (h:∀ x ∈ xs,0≤x∧x≤255):bytesAt (strOfNums xs) 0 xs:=
 ⟨by rw [strOfNums_size];omega,fun i hi=>by rw [Nat.zero_add];exact bt_str xs h i hi⟩
end Go.Proofs.YtjgffnlmjmibgaaDoor
