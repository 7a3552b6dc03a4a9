/-
  Joined: EqInts, Vm1, Ent1, Mk8.
-/
import Derived.Test.YtmhlokahmblboaaGreatDoorQ11
import Derived.Test.YtmhlokahmblboaaGreatDoorQ25

namespace Go.Proofs.YtmhlokahmblboaaGreatDoor
set_option maxRecDepth 100000
set_option maxHeartbeats 16000000
open Go.RowKit

theorem Nr (a a':Option Addr) (len cap cap':Nat) (zs:List Int) (w:World) (h:ZW .i64 w a len cap zs) (h':ZW .i64 w a' len cap' zs) :
  Calls Tryz.prog 171 #[.slice a len cap,.slice a' len cap'] w fun e w'=>e=.returned (.bool true)∧∃ d,w'=w.drewN d:=by
 obtain ⟨hl,hlc,hcm,hcase⟩:=h
 obtain ⟨_,hlc',hcm',hcase'⟩:=h'
 unfold maxLen at hcm hcm'
 have hne:((len:Int) != (len:Int))=false:=by simp
 by_cases h0:len=0
 ·subst h0
  go_enter Tryz.func171,Tryz.ntmps171
  go_wp2
  refine wp_loop_rounds 1 ?_
  rw [rounds_succ]
  go_wp2
  go_ret
  exact ⟨rfl,0,rfl⟩
 rcases hcase with h0' | ⟨b,off,rfl,hblt,hcell⟩
 ·exact absurd h0' h0
 rcases hcase' with h0' | ⟨b',off',rfl,hblt',hcell'⟩
 ·exact absurd h0' h0
 go_enter Tryz.func171,Tryz.ntmps171
 go_wp2
 go_loopw [5] (fun si wr=>∃ k d:Nat,k≤len∧si=.int .i64 k∧wr=w.drewN d) (fun si _=>len - (intOf si).toNat)
 case atStart=>exact ⟨0,0,by omega,rfl,rfl⟩
 case round =>
  obtain ⟨k,d,hk,rfl,rfl⟩:=hrel
  by_cases hlt:k<len
  ·have hc:=hcell k hlt
   have hc':=hcell' k hlt
   have hlt':(k:Int)<(len:Int):=by omega
   generalize zs.getD k 0=x at hc hc'
   clear hcell hcell'
   go_wp2
   go_quiet (fail)
   go_wp2
   go_roundw
   case rel=>exact ⟨k+1,_,by omega,by go_num,rfl⟩
   case measure=>simp [intOf];omega
  go_wp2
  go_ret
  exact ⟨rfl,d,rfl⟩


theorem SG (a:Option Addr) (len cap:Nat) (left:Int) (w:World) (hl:len≤maxLen) (h0:0≤left) (h1:left≤2 ^ 20) :
  Calls Tryz.prog 144 #[.slice a len cap,.int .i64 left] w fun e w'=>e=.returned (.int .i64 (SJ left len))∧w=w':=by
 unfold maxLen at hl
 unfold SJ
 go_enter Tryz.func144,Tryz.ntmps144
 by_cases h:left - len<0
 ·rw [if_pos h]
  go_wp2
  go_ret
  exact ⟨rfl,rfl⟩
 rw [if_neg h]
 go_wp2
 go_ret
 exact ⟨rfl,rfl⟩
theorem Lh (a:Option Addr) (len cap:Nat) (left:Int) (w:World) (hl:len≤maxLen) (h0:0≤left) (h1:left≤2 ^ 20) (h:left - len<0) :
  Calls Tryz.prog 144 #[.slice a len cap,.int .i64 left] w fun e w'=>e=.returned (.int .i64 (-1))∧w=w':=by
 have:=SG a len cap left w hl h0 h1
 unfold SJ at this
 rwa [if_pos h] at this
theorem Li (a:Option Addr) (len cap:Nat) (left:Int) (w:World) (hl:len≤maxLen) (h0:0≤left) (h1:left≤2 ^ 20) (h:0≤left - len) :
  Calls Tryz.prog 144 #[.slice a len cap,.int .i64 left] w fun e w'=>e=.returned (.int .i64 (left - len))∧w=w':=by
 have:=SG a len cap left w hl h0 h1
 unfold SJ at this
 rwa [if_neg (by omega)] at this

set_option linter.unusedVariables false
set_option linter.unusedSimpArgs false

def UM (e:E3):Nat:=e.1.size+e.2.1.length+e.2.2.length
def Xo (es:List E3):Nat:=(es.map UM).sum
def SzC (left:Int) (c:Nat) (r:Int):Prop:=r=-1∨(0≤r∧r=left - c)
theorem Lf (a:Option Addr) (len cap:Nat) (left:Int) (w:World) (hl:len≤maxLen) (h0:0≤left) (h1:left≤2 ^ 20) (h:left - len<0) :
  Calls Tryz.prog 143 #[.slice a len cap,.int .i64 left] w fun e w'=>e=.returned (.int .i64 (-1))∧w=w':=by
 have k:=SF a len cap left w hl h0 h1
 unfold SJ at k
 rw [if_pos h] at k
 exact k
theorem Lg (a:Option Addr) (len cap:Nat) (left:Int) (w:World) (hl:len≤maxLen) (h0:0≤left) (h1:left≤2 ^ 20) (h:0≤left - len) :
  Calls Tryz.prog 143 #[.slice a len cap,.int .i64 left] w fun e w'=>e=.returned (.int .i64 (left - len))∧w=w':=by
 have k:=SF a len cap left w hl h0 h1
 unfold SJ at k
 rw [if_neg (by omega)] at k
 exact k

theorem Mp (e:E3) (s:Sl2) (left:Int) (w:World) (h:YL w s e) (h0:0≤left) (h1:left≤2 ^ 20) :
  Calls Tryz.prog 96 #[ZU e.1 s,.int .i64 left] w fun x w'=>(∃ r,x=.returned (.int .i64 r)∧SzC left (UM e) r)∧Below w.heap.size w w':=by
 obtain ⟨⟨hk,_⟩,hB,hF⟩:=h
 have l1:=hB.1
 have l2:=hF.1.1
 have q1:=Nat.le_trans hB.2.1 hB.2.2.1
 have q2:=Nat.le_trans hF.1.2.1 hF.1.2.2.1
 clear hB hF
 obtain ⟨k,bs,zs⟩:=e
 obtain ⟨⟨a1,n1,c1⟩,⟨a2,n2,c2⟩⟩:=s
 unfold ZU UM
 simp only at *
 rw [l1,l2]
 unfold maxLen at hk
 have hb:Below w.heap.size w (w.alloc (.cells #[.string k,.slice a1 n1 c1,.slice a2 n2 c2] 170)):=by go_grown
 have hw1:IntKind.i64.wrap (left - (k.size:Int))=left - (k.size:Int):=by rw [IntKind.wrap_i64];omega
 by_cases g0:left - (k.size:Int)<0
 ·go_enter Tryz.func96,Tryz.ntmps96
  go_wp2
  go_ret
  exact ⟨⟨_,rfl,.inl rfl⟩,hb⟩
 by_cases g1:left - (k.size:Int) - n1<0
 ·have kB:=fun W=>Lf a1 n1 c1 (left - (k.size:Int)) W q1 (by omega) (by omega) g1
  go_enter Tryz.func96,Tryz.ntmps96
  go_wp2_with fail
  refine (kB _).mono ?_
  rintro x w1 ⟨rfl,rfl⟩
  go_wp2
  go_ret
  exact ⟨⟨_,rfl,.inl rfl⟩,hb⟩
 have kB:=fun W=>Lg a1 n1 c1 (left - (k.size:Int)) W q1 (by omega) (by omega) (by omega)
 by_cases g2:left - (k.size:Int) - n1 - n2<0
 ·have kC:=fun W=>Lh a2 n2 c2 (left - (k.size:Int) - n1) W q2 (by omega) (by omega) g2
  have hn1:¬ left - (k.size:Int) - n1<0:=g1
  go_enter Tryz.func96,Tryz.ntmps96
  go_wp2_with fail
  refine (kB _).mono ?_
  rintro x w1 ⟨rfl,rfl⟩
  go_wp2_with fail
  refine (kC _).mono ?_
  rintro x w1 ⟨rfl,rfl⟩
  go_wp2
  go_ret
  exact ⟨⟨_,rfl,.inl rfl⟩,hb⟩
 have kC:=fun W=>Li a2 n2 c2 (left - (k.size:Int) - n1) W q2 (by omega) (by omega) (by omega)
 have hr:SzC left (k.size+n1+n2) (left - (k.size:Int) - n1 - n2):=.inr ⟨by omega,by omega⟩
 go_enter Tryz.func96,Tryz.ntmps96
 go_wp2_with fail
 refine (kB _).mono ?_
 rintro x w1 ⟨rfl,rfl⟩
 go_wp2_with fail
 refine (kC _).mono ?_
 rintro x w1 ⟨rfl,rfl⟩
 go_wp2
 go_ret
 exact ⟨⟨_,rfl,hr⟩,hb⟩

theorem Ri {es:List E3} {t:Nat} (h:t<es.length):Xo (es.take (t+1))=Xo (es.take t)+UM (es.getD t e3d):=by
 unfold Xo
 have e:es.take (t+1)=es.take t++[es.getD t e3d]:=by
  rw [List.take_add_one,List.getElem?_eq_getElem h,List.getD,List.getElem?_eq_getElem h]
  rfl
 rw [e,List.map_append,List.sum_append]
 simp

theorem P9 (a:Option Addr) (len cap:Nat) (es:List E3) (left:Int) (w:World) (h:XF w a len cap es) (h0:0≤left) (h1:left≤2 ^ 20) :
  Calls Tryz.prog 43 #[.slice a len cap,.int .i64 left] w fun x w'=>(∃ r,x=.returned (.int .i64 r)∧SzC left (len+Xo es) r)∧Below w.heap.size w w':=by
 obtain ⟨hl,hlc,hcm,hcase⟩:=h
 unfold maxLen at hcm
 by_cases g0:left - (len:Int)<0
 ·go_enter Tryz.func43,Tryz.ntmps43
  go_wp2
  go_ret
  exact ⟨⟨_,rfl,.inl rfl⟩,Below.refl _ _⟩
 go_enter Tryz.func43,Tryz.ntmps43
 go_wp2_with fail
 go_loopw [1,5] (fun sl si wr=>∃ (k:Nat) (l:Int),k≤len∧0≤l∧l≤1048576∧Hid (l=left - len - Xo (es.take k))∧si=.int .i64 k∧sl=.int .i64 l∧Below w.heap.size w wr) (fun _ si _=>len - (intOf si).toNat)
 case atStart=>exact ⟨0,left - len,by omega,by omega,by omega,by rw [Hid];simp [Xo],rfl,rfl,Below.refl _ _⟩
 case round =>
  obtain ⟨k,l,hk,hl0,hl2,hl1,rfl,rfl,bw⟩:=hrel
  by_cases hlt:k<len
  ·rcases hcase with e0 | ⟨b,off,rfl,hblt,hcell⟩
   ·omega
   obtain ⟨s,c0,c1,c2,hm⟩:=hcell k hlt
   have hct:Hid (Xo (es.take (k+1))=Xo (es.take k)+UM (es.getD k e3d)):=Ri (es:=es) (t:=k) (by omega)
   have kE:=fun W (hb:Below w.heap.size w W)=>Mp (es.getD k e3d) s l W (hm.below hb) hl0 hl2
   replace c0:=Zy bw c0
   replace c1:=Zy bw c1
   replace c2:=Zy bw c2
   clear hcell hm
   generalize es.getD k e3d=x at *
   generalize UM x=cx at *
   obtain ⟨xk,xb,xz⟩:=x
   obtain ⟨⟨a1,n1,d1⟩,⟨a2,n2,d2⟩⟩:=s
   unfold ZU at kE
   simp only at c0 c1 c2 kE
   have hlt2:(k:Int)<(len:Int):=by omega
   have hk0:(0:Int)≤(k:Int):=by omega
   go_wp2_with fail
   refine (kE _ bw).mono ?_
   rintro x w1 ⟨⟨r,rfl,hr⟩,hb⟩
   replace bw:=Zm bw hb
   clear hb c0 c1 c2 kE
   rcases hr with rfl | ⟨hr0,hr1⟩
   ·go_wp2
    go_ret
    exact ⟨⟨_,rfl,.inl rfl⟩,bw⟩
   have hn:¬ r<0:=by omega
   have HR:Hid (r=left - len - Xo (es.take (k+1))):=by rw [Hid,hct.out,hr1,hl1.out];omega
   have hr2:r≤1048576:=by omega
   clear hr1 hct hl1
   go_wp2
   go_roundw
   case rel=>exact ⟨k+1,r,by omega,hr0,hr2,HR,by go_num,rfl,bw⟩
   case measure=>simp [intOf];omega
  obtain rfl:k=len:=by omega
  have e9:es.take k=es:=List.take_of_length_le (by omega)
  rw [e9] at hl1
  clear e9
  have hfin:SzC left (k+Xo es) l:=.inr ⟨hl0,by rw [hl1.out];omega⟩
  clear hl1
  go_wp2
  go_ret
  exact ⟨⟨_,rfl,hfin⟩,bw⟩

theorem Lj (a:Option Addr) (len cap:Nat) (es:List E3) (left:Int) (w:World) (h:XF w a len cap es) (h0:0≤left) (h1:left≤2 ^ 20) :
  Calls Tryz.prog 10 #[.agg #[.slice a len cap],.int .i64 left] w fun x w'=>(∃ r,x=.returned (.int .i64 r)∧SzC left (len+Xo es) r)∧Below w.heap.size w w':=by
 have kE:=fun W (hb:Below w.heap.size w W)=>P9 a len cap es left W (h.below hb) h0 h1
 have bw:Below w.heap.size w (w.alloc (.cells #[.slice a len cap] 40)):=by go_grown
 go_enter Tryz.func10,Tryz.ntmps10
 go_wp2_with fail
 refine (kE _ bw).mono ?_
 rintro x w1 ⟨⟨r,rfl,hr⟩,hb⟩
 replace bw:=Zm bw hb
 clear hb kE
 have hr':=hr
 rcases hr with rfl | ⟨hr0,hr1⟩
 ·go_wp2
  go_ret
  exact ⟨⟨_,rfl,hr'⟩,bw⟩
 have hn:¬ r<0:=by omega
 clear hr1
 go_wp2
 go_ret
 exact ⟨⟨_,rfl,hr'⟩,bw⟩
theorem Gu {es:List E3} {t:Nat} (h:t<es.length):UM (es.getD t e3d)≤Xo es:=by
 have h1:=Ri h
 have e2:Xo es=Xo (es.take (t+1))+Xo (es.drop (t+1)):=by
  unfold Xo
  rw [← List.sum_append,← List.map_append,List.take_append_drop]
 omega


theorem GY (w:World) (g j:Nat) (u:Value):w.grownBy (w.setCell ⟨g,j,none⟩ u) (some g):=
 ⟨rfl,rfl,rfl,by simp [World.setCell],fun k _ hk=>Below.heap_setCell _ _ _ _ (fun e=>hk (by rw [e]))⟩
theorem FL {a b c:World} {row:Option Nat} (h:a.grownBy b row) (k:b.grownBy c row):a.grownBy c row:=
 ⟨k.os.trans h.os,k.tape.trans h.tape,k.output.trans h.output,Nat.le_trans h.size k.size,fun i hi hne=>(k.block i (by have:=h.size;omega) hne).trans (h.block i hi hne)⟩
theorem FD (base g n cap:Nat) (k:Int) (xs:List Int) (w:World) (hk0:0≤k) (hk:k≤1000000000) (hn:n≤1048576) (ho:w.ownsRow base 3 1 (.slice (some ⟨g,0,none⟩) n cap) n (xs.map (Value.int .i64))) :
  Calls Tryz.prog 118 #[.slice (some ⟨g,0,none⟩) n cap,.int .i64 k] w fun e w'=>e=.returned (.int .i64 (k+n)) ∧
   w'.ownsRow base 3 1 (.slice (some ⟨g,0,none⟩) n cap) n ((Vg k xs n).map (Value.int .i64))∧w.grownBy w' (some g):=by
 have hlen:xs.length=n:=by simpa using ho.1
 go_enter Tryz.func118,Tryz.ntmps118
 go_wp2
 go_loopw [1,5] (fun sk si wr=>∃ j:Nat,j≤n∧si=.int .i64 j∧sk=.int .i64 (k+j)∧wr.ownsRow base 3 1 (.slice (some ⟨g,0,none⟩) n cap) n ((Vg k xs j).map (Value.int .i64))∧w.grownBy wr (some g)) (fun _ si _=>n - (Go.RowKit.intOf si).toNat)
 case atStart=>exact ⟨0,by omega,rfl,by go_num,by simpa [Vg] using ho,World.grownBy.refl _ _⟩
 case round =>
  obtain ⟨j,hj,rfl,rfl,hr,hbel⟩:=hrel
  by_cases hlt:j<n
  ·have hf:=hr.frozenAt j
   have hst:=(hr.stored j (.int .i64 (k+j))).1
   rw [← List.map_set,N0 k xs j (by omega)] at hst
   have hold:∃ u,wr.cell? ⟨g,j,none⟩=some u:=by
    have:=hr.cellAt j (by omega)
    rw [this]
    exact ⟨_,List.getElem?_eq_getElem (by simp [Tg];omega)⟩
   obtain ⟨u,hu⟩:=hold
   have hb1:=FL hbel (GY wr g j (.int .i64 (k+j)))
   clear hr ho
   go_wp2
   go_roundw
   case rel=>exact ⟨j+1,by omega,by go_num,by go_num,hst,hb1⟩
   case measure=>simp [Go.RowKit.intOf];omega
  obtain rfl:j=n:=by omega
  go_wp2
  go_ret
  exact ⟨rfl,hr,hbel⟩
theorem Hb (base:Nat) (v:Value) (k:Int) (xs:List Int) (w:World) (hk0:0≤k) (hk:k≤1000000000) (hn:xs.length≤1048576) (ho:w.ownsRow base 3 1 v xs.length (xs.map (Value.int .i64))) :
  Calls Tryz.prog 118 #[v,.int .i64 k] w fun e w'=>e=.returned (.int .i64 (k+xs.length)) ∧
   w'.ownsRow base 3 1 v xs.length ((Vg k xs xs.length).map (Value.int .i64))∧w.grownBy w' v.ownBlock:=by
 rcases ho.2 with ⟨rfl,h0⟩ | ⟨g,cap,cur,rfl,_⟩
 ·have hx:xs=[]:=List.eq_nil_of_length_eq_zero h0
  subst hx
  refine (Qx none 0 k w).mono ?_
  rintro e w' ⟨rfl,rfl⟩
  exact ⟨by simp,ho,World.grownBy.refl _ _⟩
 refine (FD base g xs.length cap k xs w hk0 hk hn ho).mono ?_
 rintro e w' ⟨rfl,h1,h2⟩
 exact ⟨rfl,h1,h2⟩
theorem JU (base:Nat) (v:Value) (k:Int) (xs:List Int) (w:World) (hk0:0≤k) (hk:k≤1000000000) (hn:xs.length≤1048576) (ho:w.ownsRow base 3 1 v xs.length ((Vg k xs xs.length).map (Value.int .i64))) :
  Calls Tryz.prog 119 #[v,.int .i64 k] w fun e w'=>e=.returned (.int .i64 (k+xs.length))∧w=w':=by
 obtain ⟨a,cap,rfl⟩:=ZH ho
 exact PF a xs.length cap k (Vg k xs xs.length) w hk0 hk hn (QW ho) (fun i hi=>NZ k xs xs.length i hi (Nat.le_refl _))
theorem eq8 (a a':Option Addr) (len cap cap':Nat) (xs:List Int) (w:World) (h:ZW .i64 w a len cap xs) (h':ZW .i64 w a' len cap' xs) :
  Calls Tryz.prog 171 #[.slice a len cap,.slice a' len cap'] w fun e w'=>e=.returned (.bool true)∧Below w.heap.size w w':=by
 refine (Nr a a' len cap cap' xs w h h').mono ?_
 rintro e w' ⟨rfl,d,rfl⟩
 exact ⟨rfl,⟨rfl,rfl,rfl,Nat.le_refl _,fun _ _=>rfl⟩⟩
theorem to8 (a:Option Addr) (len cap:Nat) (zs:List Int) (w:World) (h:ZW .i64 w a len cap zs) (hlen:len≤1048576) :
  Calls Tryz.prog 155 #[.slice a len cap] w fun e w'=>e=.returned (.slice (some ⟨w.heap.size,0,none⟩) len len) ∧
   (∃ g,g=w.heap.size∧w'.ownsRow w.heap.size 3 1 (.slice (some ⟨g,0,none⟩) len len) len (zs.map (Value.int .i64)))∧Below w.heap.size w w':=by
 refine (Lm a len cap zs w h hlen).mono ?_
 rintro e w' ⟨rfl,h1,h2⟩
 exact ⟨rfl,⟨_,rfl,h1⟩,h2⟩
end Go.Proofs.YtmhlokahmblboaaGreatDoor
