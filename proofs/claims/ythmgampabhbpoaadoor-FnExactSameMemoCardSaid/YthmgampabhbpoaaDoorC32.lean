/-
  Joined: Lists, PackRead.
-/
import Derived.Test.YthmgampabhbpoaaDoorC31

namespace Go.Proofs.YthmgampabhbpoaaDoor
set_option maxRecDepth 100000
set_option maxHeartbeats 16000000

def NumsAt (s:ByteArray):Nat→List Nat→Nat→Prop
 | p,[],q=>q=p
 | p,z::zs,q=>∃ k,Num s p z k∧NumsAt s (p+k) zs q
theorem numsAt_prefix {s:ByteArray}:∀ {zs ys:List Nat} {p q r:Nat},NumsAt s p zs q→NumsAt s p ys r→zs.length≤ys.length→∃ rest,ys=zs++rest∧NumsAt s q rest r
 | [],ys,p,q,r,h,g,_=>by
  obtain rfl:q=p:=h
  exact ⟨ys,rfl,g⟩
 | z::zs,[],_,_,_,_,_,hl=>by simp at hl
 | z::zs,y::ys,p,q,r,h,g,hl=>by
  obtain ⟨j,hj,hr⟩:=h
  obtain ⟨k,hk,gr⟩:=g
  obtain ⟨rfl,rfl⟩:=hj.only hk
  obtain ⟨rest,rfl,h'⟩:=numsAt_prefix hr gr (by simpa using hl)
  exact ⟨rest,rfl,h'⟩
def Listed (s:ByteArray) (zs:List Nat):Prop:=∃ k,Num s 0 zs.length k∧zs.length≤4096∧NumsAt s k zs s.size
theorem Listed.only {s:ByteArray} {zs ys:List Nat} (h:Listed s zs) (g:Listed s ys):zs=ys:=by
 obtain ⟨k,hk,_,hz⟩:=h
 obtain ⟨j,hj,_,hy⟩:=g
 obtain ⟨hl,rfl⟩:=hk.only hj
 obtain ⟨rest,rfl,_⟩:=numsAt_prefix hz hy (by omega)
 have:rest=[]:=by
  have e:=hl
  simp at e
  exact e
 rw [this,List.append_nil]
theorem listed_of {s:ByteArray} {n k q:Nat} {zs:List Nat} (h:Num s 0 n k) (hn:n≤4096) (hz:NumsAt s k zs q) (hl:zs.length=n) (hq:q=s.size):Listed s zs:=by
 subst hl hq
 exact ⟨k,h,hn,hz⟩


def bytesAt (s:ByteArray) (p:Nat) (xs:List Int):Prop:=p+xs.length≤s.size∧∀ i,i<xs.length→(bt s (p+i):Int)=xs.getD i 0
theorem bytesAt_left {s:ByteArray} {p:Nat} {xs ys:List Int} (h:bytesAt s p (xs++ys)):bytesAt s p xs:=by
 obtain ⟨h1,h2⟩:=h
 rw [List.length_append] at h1
 refine ⟨by omega,fun i hi=>?_⟩
 rw [h2 i (by rw [List.length_append];omega)]
 simp [List.getD,List.getElem?_append_left hi]
theorem bytesAt_right {s:ByteArray} {p:Nat} {xs ys:List Int} (h:bytesAt s p (xs++ys)):bytesAt s (p+xs.length) ys:=by
 obtain ⟨h1,h2⟩:=h
 rw [List.length_append] at h1
 refine ⟨by omega,fun i hi=>?_⟩
 have:=h2 (xs.length+i) (by rw [List.length_append];omega)
 rw [show p+xs.length+i=p+(xs.length+i) by omega,this]
 simp [List.getD,List.getElem?_append_right (show xs.length≤xs.length+i by omega)]

theorem num_of_bytes {s:ByteArray} {p n:Nat} (hn:n≤999999999) (h:bytesAt s p (pack n)):Num s p n (pack n).length:=by
 obtain ⟨hs,hb⟩:=h
 by_cases h1:n<128
 ·rw [pack_small h1] at hs hb ⊢
  have b0:=hb 0 (by simp)
  simp at b0 hs
  refine ⟨⟨by simp,by simp,by simpa using hs,fun i hi=>by simp at hi,by simp;omega⟩,by simp,?_,hn⟩
  simp only [List.length_cons,List.length_nil,val]
  omega
 by_cases h2:n<16384
 ·rw [pack2 (by omega) h2] at hs hb ⊢
  have b0:=hb 0 (by simp)
  have b1:=hb 1 (by simp)
  simp at b0 b1 hs
  refine ⟨⟨by simp,by simp,by simpa using hs,fun i hi=>?_,?_⟩,?_,?_,hn⟩
  ·simp at hi;obtain rfl:i=0:=by omega
   simp;omega
  ·simp only [List.length_cons,List.length_nil,show p+(0+1+1) - 1=p+1 by omega];omega
  ·simp only [List.length_cons,List.length_nil,show p+(0+1+1) - 1=p+1 by omega];omega
  ·simp only [List.length_cons,List.length_nil,val];omega
 by_cases h3:n<2097152
 ·rw [pack3 (by omega) h3] at hs hb ⊢
  have b0:=hb 0 (by simp)
  have b1:=hb 1 (by simp)
  have b2:=hb 2 (by simp)
  simp at b0 b1 b2 hs
  refine ⟨⟨by simp,by simp,by simpa using hs,fun i hi=>?_,?_⟩,?_,?_,hn⟩
  ·simp at hi
   have:i=0∨i=1:=by omega
   rcases this with rfl | rfl
   ·simp;omega
   ·omega
  ·simp only [List.length_cons,List.length_nil,show p+(0+1+1+1) - 1=p+2 by omega];omega
  ·simp only [List.length_cons,List.length_nil,show p+(0+1+1+1) - 1=p+2 by omega];omega
  ·simp only [List.length_cons,List.length_nil,val];omega
 by_cases h4:n<268435456
 ·rw [pack4 (by omega) h4] at hs hb ⊢
  have b0:=hb 0 (by simp)
  have b1:=hb 1 (by simp)
  have b2:=hb 2 (by simp)
  have b3:=hb 3 (by simp)
  simp at b0 b1 b2 b3 hs
  refine ⟨⟨by simp,by simp,by simpa using hs,fun i hi=>?_,?_⟩,?_,?_,hn⟩
  ·simp at hi
   have:i=0∨i=1∨i=2:=by omega
   rcases this with rfl | rfl | rfl
   ·simp;omega
   ·omega
   ·omega
  ·simp only [List.length_cons,List.length_nil,show p+(0+1+1+1+1) - 1=p+3 by omega];omega
  ·simp only [List.length_cons,List.length_nil,show p+(0+1+1+1+1) - 1=p+3 by omega];omega
  ·simp only [List.length_cons,List.length_nil,val];omega
 ·rw [pack5 (by omega)] at hs hb ⊢
  have b0:=hb 0 (by simp)
  have b1:=hb 1 (by simp)
  have b2:=hb 2 (by simp)
  have b3:=hb 3 (by simp)
  have b4:=hb 4 (by simp)
  simp at b0 b1 b2 b3 b4 hs
  refine ⟨⟨by simp,by simp,by simpa using hs,fun i hi=>?_,?_⟩,?_,?_,hn⟩
  ·simp at hi
   have:i=0∨i=1∨i=2∨i=3:=by omega
   rcases this with rfl | rfl | rfl | rfl
   ·simp;omega
   ·omega
   ·omega
   ·omega
  ·simp only [List.length_cons,List.length_nil,show p+(0+1+1+1+1+1) - 1=p+4 by omega];omega
  ·simp only [List.length_cons,List.length_nil,show p+(0+1+1+1+1+1) - 1=p+4 by omega];omega
  ·simp only [List.length_cons,List.length_nil,val];omega

def packsN (zs:List Nat):List Int:=zs.flatMap fun z=>pack z
theorem numsAt_of_bytes {s:ByteArray}:∀ {zs:List Nat} {p:Nat},(∀ z ∈ zs,z≤999999999)→bytesAt s p (packsN zs)→NumsAt s p zs (p+(packsN zs).length)
 | [],p,_,_=>by simp [packsN,NumsAt]
 | z::zs,p,hz,h=>by
  have e:packsN (z::zs)=pack z++packsN zs:=by simp [packsN]
  rw [e] at h ⊢
  refine ⟨_,num_of_bytes (hz z (by simp)) (bytesAt_left h),?_⟩
  have:=numsAt_of_bytes (fun y hy=>hz y (by simp [hy])) (bytesAt_right h)
  rw [List.length_append,← Nat.add_assoc]
  exact this

theorem bt_str (xs:List Int) (h:∀ x ∈ xs,0≤x∧x≤255) (i:Nat) (hi:i<xs.length):(bt (strOfNums xs) i:Int)=xs.getD i 0:=by
 have hs:i<(strOfNums xs).size:=by rw [strOfNums_size];exact hi
 unfold bt
 rw [dif_pos hs]
 have hx:=h xs[i] (List.getElem_mem hi)
 have e:((strOfNums xs)[i]'hs)=UInt8.ofNat xs[i].toNat:=by
  show (strOfNums xs).data[i]'(by simpa using hs)=_
  simp [strOfNums]
 rw [e]
 simp [List.getElem?_eq_getElem hi]
 omega
theorem bytesAt_str (xs:List Int) (h:∀ x ∈ xs,0≤x∧x≤255):bytesAt (strOfNums xs) 0 xs:=
 ⟨by rw [strOfNums_size];omega,fun i hi=>by rw [Nat.zero_add];exact bt_str xs h i hi⟩
end Go.Proofs.YthmgampabhbpoaaDoor
