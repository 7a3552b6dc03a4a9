/-
  Joined: InstrS, Conv, TextS, Take.
-/
import Derived.Laws.BytesArg
import Derived.Laws.RangeString
import Derived.Laws.RangeAny
import Derived.Laws.Bits
import Derived.Test.YtifoggpohlegmaaGreatDoorS04

namespace Go.Proofs.YtifoggpohlegmaaGreatDoor
set_option maxRecDepth 100000
set_option maxHeartbeats 16000000
open Go.RowKit

theorem l01In_is (n a b:Int) (w:World):Calls Tryz.prog 131 #[.int .i64 n,.int .i64 a,.int .i64 b] w fun e w'=>e=.returned (.bool (inB n a b))∧w=w':=by
 cases h:inB n a b
 ·exact l01In_no n a b w (inB_false.1 h)
 ·exact l01In_yes n a b w (inB_true.1 h)

theorem specOK_1 (a b:Int) (w:World):Calls Tryz.prog 130 #[.agg #[.int .i64 1,.int .i64 a,.int .i64 b]] w fun e w'=>e=.returned (.bool (inB a 0 1 && inB b 0 3))∧Below w.heap.size w w':=by
 have kA:=l01In_is a 0 1
 have kB:=l01In_is b 0 3
 generalize inB a 0 1=p at kA
 generalize inB b 0 3=q at kB
 go_enter Tryz.func130,Tryz.ntmps130
 go_wp2_with fail
 refine (kA _).mono ?_
 rintro e w1 ⟨rfl,rfl⟩
 cases p
 ·go_wp2_with fail
  go_ret
  exact ⟨rfl,by go_grown⟩
 ·go_wp2_with fail
  refine (kB _).mono ?_
  rintro e w1 ⟨rfl,rfl⟩
  go_wp2_with fail
  go_ret
  exact ⟨rfl,by go_grown⟩

theorem specOK_2 (a b:Int) (w:World):Calls Tryz.prog 130 #[.agg #[.int .i64 2,.int .i64 a,.int .i64 b]] w fun e w'=>e=.returned (.bool (inB a 0 3 && inB b 0 1))∧Below w.heap.size w w':=by
 have kA:=l01In_is a 0 3
 have kB:=l01In_is b 0 1
 generalize inB a 0 3=p at kA
 generalize inB b 0 1=q at kB
 go_enter Tryz.func130,Tryz.ntmps130
 go_wp2_with fail
 refine (kA _).mono ?_
 rintro e w1 ⟨rfl,rfl⟩
 cases p
 ·go_wp2_with fail
  go_ret
  exact ⟨rfl,by go_grown⟩
 ·go_wp2_with fail
  refine (kB _).mono ?_
  rintro e w1 ⟨rfl,rfl⟩
  go_wp2_with fail
  go_ret
  exact ⟨rfl,by go_grown⟩

theorem specOK_3 (a b:Int) (w:World):Calls Tryz.prog 130 #[.agg #[.int .i64 3,.int .i64 a,.int .i64 b]] w fun e w'=>e=.returned (.bool (inB a 0 1 && inB b 0 9))∧Below w.heap.size w w':=by
 have kA:=l01In_is a 0 1
 have kB:=l01In_is b 0 9
 generalize inB a 0 1=p at kA
 generalize inB b 0 9=q at kB
 go_enter Tryz.func130,Tryz.ntmps130
 go_wp2_with fail
 refine (kA _).mono ?_
 rintro e w1 ⟨rfl,rfl⟩
 cases p
 ·go_wp2_with fail
  go_ret
  exact ⟨rfl,by go_grown⟩
 ·go_wp2_with fail
  refine (kB _).mono ?_
  rintro e w1 ⟨rfl,rfl⟩
  go_wp2_with fail
  go_ret
  exact ⟨rfl,by go_grown⟩

theorem specOK_4 (a b:Int) (w:World):Calls Tryz.prog 130 #[.agg #[.int .i64 4,.int .i64 a,.int .i64 b]] w fun e w'=>e=.returned (.bool (inB a 0 1 && inB b 0 9))∧Below w.heap.size w w':=by
 have kA:=l01In_is a 0 1
 have kB:=l01In_is b 0 9
 generalize inB a 0 1=p at kA
 generalize inB b 0 9=q at kB
 go_enter Tryz.func130,Tryz.ntmps130
 go_wp2_with fail
 refine (kA _).mono ?_
 rintro e w1 ⟨rfl,rfl⟩
 cases p
 ·go_wp2_with fail
  go_ret
  exact ⟨rfl,by go_grown⟩
 ·go_wp2_with fail
  refine (kB _).mono ?_
  rintro e w1 ⟨rfl,rfl⟩
  go_wp2_with fail
  go_ret
  exact ⟨rfl,by go_grown⟩

theorem specOK_5 (a b:Int) (w:World):Calls Tryz.prog 130 #[.agg #[.int .i64 5,.int .i64 a,.int .i64 b]] w fun e w'=>e=.returned (.bool (inB a 0 1 && inB b 0 0))∧Below w.heap.size w w':=by
 have kA:=l01In_is a 0 1
 generalize inB a 0 1=p at kA
 have kB:(b == 0)=inB b 0 0:=by
  cases h:inB b 0 0
  ·rw [inB_false] at h
   simp;omega
  ·rw [inB_true] at h
   simp;omega
 rw [← kB]
 clear kB
 go_enter Tryz.func130,Tryz.ntmps130
 go_wp2_with fail
 refine (kA _).mono ?_
 rintro e w1 ⟨rfl,rfl⟩
 cases p
 ·go_wp2_with fail
  go_ret
  exact ⟨rfl,by go_grown⟩
 ·go_wp2_with fail
  go_ret
  exact ⟨by simp,by go_grown⟩

theorem specOK_6 (a b:Int) (w:World):Calls Tryz.prog 130 #[.agg #[.int .i64 6,.int .i64 a,.int .i64 b]] w fun e w'=>e=.returned (.bool (inB a 0 1 && inB b 0 0))∧Below w.heap.size w w':=by
 have kA:=l01In_is a 0 1
 generalize inB a 0 1=p at kA
 have kB:(b == 0)=inB b 0 0:=by
  cases h:inB b 0 0
  ·rw [inB_false] at h
   simp;omega
  ·rw [inB_true] at h
   simp;omega
 rw [← kB]
 clear kB
 go_enter Tryz.func130,Tryz.ntmps130
 go_wp2_with fail
 refine (kA _).mono ?_
 rintro e w1 ⟨rfl,rfl⟩
 cases p
 ·go_wp2_with fail
  go_ret
  exact ⟨rfl,by go_grown⟩
 ·go_wp2_with fail
  go_ret
  exact ⟨by simp,by go_grown⟩

theorem specOK_7 (a b:Int) (w:World):Calls Tryz.prog 130 #[.agg #[.int .i64 7,.int .i64 a,.int .i64 b]] w fun e w'=>e=.returned (.bool (inB a 0 1 && inB b 1 6))∧Below w.heap.size w w':=by
 have kA:=l01In_is a 0 1
 have kB:=l01In_is b 1 6
 generalize inB a 0 1=p at kA
 generalize inB b 1 6=q at kB
 go_enter Tryz.func130,Tryz.ntmps130
 go_wp2_with fail
 refine (kA _).mono ?_
 rintro e w1 ⟨rfl,rfl⟩
 cases p
 ·go_wp2_with fail
  go_ret
  exact ⟨rfl,by go_grown⟩
 ·go_wp2_with fail
  refine (kB _).mono ?_
  rintro e w1 ⟨rfl,rfl⟩
  go_wp2_with fail
  go_ret
  exact ⟨rfl,by go_grown⟩

theorem specOK_8 (a b:Int) (w:World):Calls Tryz.prog 130 #[.agg #[.int .i64 8,.int .i64 a,.int .i64 b]] w fun e w'=>e=.returned (.bool (inB a 0 1 && inB b 0 9))∧Below w.heap.size w w':=by
 have kA:=l01In_is a 0 1
 have kB:=l01In_is b 0 9
 generalize inB a 0 1=p at kA
 generalize inB b 0 9=q at kB
 go_enter Tryz.func130,Tryz.ntmps130
 go_wp2_with fail
 refine (kA _).mono ?_
 rintro e w1 ⟨rfl,rfl⟩
 cases p
 ·go_wp2_with fail
  go_ret
  exact ⟨rfl,by go_grown⟩
 ·go_wp2_with fail
  refine (kB _).mono ?_
  rintro e w1 ⟨rfl,rfl⟩
  go_wp2_with fail
  go_ret
  exact ⟨rfl,by go_grown⟩

theorem specOK_0 (c a b:Int) (w:World) (h:c≠1∧c≠2∧c≠3∧c≠4∧c≠5∧c≠6∧c≠7∧c≠8):Calls Tryz.prog 130 #[.agg #[.int .i64 c,.int .i64 a,.int .i64 b]] w fun e w'=>e=.returned (.bool false)∧Below w.heap.size w w':=by
 obtain ⟨h1,h2,h3,h4,h5,h6,h7,h8⟩:=h
 go_enter Tryz.func130,Tryz.ntmps130
 go_wp2
 go_ret
 exact ⟨rfl,by go_grown⟩

theorem specOK_is (x:I3) (w:World):Calls Tryz.prog 130 #[x.val] w fun e w'=>e=.returned (.bool (okI x))∧Below w.heap.size w w':=by
 obtain ⟨c,a,b⟩:=x
 unfold I3.val okI
 rcases op_cases (c,a,b) with h | h | h | h | h | h | h | h | h

 ·obtain rfl:c=1:=h
  simpa using specOK_1 a b w
 ·obtain rfl:c=2:=h
  simpa using specOK_2 a b w
 ·obtain rfl:c=3:=h
  simpa using specOK_3 a b w
 ·obtain rfl:c=4:=h
  simpa using specOK_4 a b w
 ·obtain rfl:c=5:=h
  simpa using specOK_5 a b w
 ·obtain rfl:c=6:=h
  simpa using specOK_6 a b w
 ·obtain rfl:c=7:=h
  simpa using specOK_7 a b w
 ·obtain rfl:c=8:=h
  simpa using specOK_8 a b w
 ·have h':=h
  obtain ⟨h1,h2,h3,h4,h5,h6,h7,h8⟩:=h
  simp only [] at h1 h2 h3 h4 h5 h6 h7 h8
  rw [if_neg h1,if_neg h2,if_neg (by simp;omega),if_neg (by simp;omega),if_neg h7]
  exact specOK_0 c a b w h'


theorem info_u8:(Tryz.prog.info? 5).map (fun i=>(i.zero,i.size,i.bytes))=some (some (.int .u8 0),1,1):=by kernel_rfl
abbrev u8s (xs:List Int):List Value:=xs.map (Value.int .u8)

theorem conv_owned {w:World} {base n:Nat} {v:Value} {xs:List Int} (h:w.ownsRow base 5 1 v n (u8s xs)) :
  (convert 22 9 v).run Tryz.prog w=.ok (.string (strOfNums xs)) w:=by
 obtain ⟨hl,h2⟩:=h
 simp at hl
 rcases h2 with ⟨rfl,rfl⟩ | ⟨g,cap,cur,rfl,hg,hh,hn,hc,hs,ht⟩
 ·have:xs=[]:=by simpa using hl
  subst this
  exact run_convert_bytes_nil w 22 5 Tryz.underlying22 Tryz.underlying5 0 0 9 Tryz.underlying9
 ·refine run_convert_bytes_arg w 22 5 Tryz.underlying22 Tryz.underlying5 g 0 n cap xs hl (fun i hi=>?_) 9 Tryz.underlying9
  have hown:w.ownsRow base 5 1 (.slice (some ⟨g,0,none⟩) n cap) n (u8s xs):=⟨by simpa using hl,.inr ⟨g,cap,cur,rfl,hg,hh,hn,hc,hs,ht⟩⟩
  have:=hown.cellAt i (by omega)
  rw [Nat.zero_add,this]
  simp [List.getElem?_eq_getElem (show i<xs.length by omega)]

theorem one_u8 (n:Int):∀ u ∈ [Value.int .u8 n],u.oneCell'=true:=by intro u hu;simp at hu;subst hu;rfl


def opWL:List (List UInt8):=[[],[108,111,97,100],[115,116,111,114,101],[115,101,116],[97,100,100],[108,111,99,107],[117,110,108,111,99,107],[106,117,109,112],[97,115,115,101,114,116]]
def opB (k:Nat):ByteArray:=⟨(opWL.getD k []).toArray⟩


def bt (s:ByteArray) (k:Nat):Nat:=if h:k<s.size then (s[k]'h).toNat else 0
def IsEnd (s:ByteArray) (p k:Nat):Prop:=1≤k∧k≤5∧p+k≤s.size∧(∀ i,i+1<k→128≤bt s (p+i))∧bt s (p+k - 1)<128
theorem IsEnd.only {s:ByteArray} {p k j:Nat} (h:IsEnd s p k) (g:IsEnd s p j):k=j:=by
 obtain ⟨h1,h2,h3,h4,h5⟩:=h
 obtain ⟨g1,g2,g3,g4,g5⟩:=g
 rcases Nat.lt_trichotomy k j with hl | hl | hl
 ·have:=g4 (k - 1) (by omega)
  rw [show p+(k - 1)=p+k - 1 by omega] at this
  omega
 ·exact hl
 ·have:=h4 (j - 1) (by omega)
  rw [show p+(j - 1)=p+j - 1 by omega] at this
  omega
def val (s:ByteArray) (p:Nat):Nat→Nat
 | 0=>0
 | 1=>bt s p % 128
 | 2=>bt s p % 128+bt s (p+1) % 128*128
 | 3=>bt s p % 128+bt s (p+1) % 128*128+bt s (p+2) % 128*16384
 | 4=>bt s p % 128+bt s (p+1) % 128*128+bt s (p+2) % 128*16384+bt s (p+3) % 128*2097152
 | _=>bt s p % 128+bt s (p+1) % 128*128+bt s (p+2) % 128*16384+bt s (p+3) % 128*2097152+bt s (p+4) % 128*268435456

def Num (s:ByteArray) (p n k:Nat):Prop:=IsEnd s p k∧¬ (1<k∧bt s (p+k - 1)=0)∧n=val s p k∧n≤999999999
theorem Num.only {s:ByteArray} {p n k m j:Nat} (h:Num s p n k) (g:Num s p m j):n=m∧k=j:=by
 have e:=h.1.only g.1
 subst e
 exact ⟨h.2.2.1.trans g.2.2.1.symm,rfl⟩
def hv (s:ByteArray) (p k:Nat):Nat→Nat
 | 0=>0
 | j+1=>hv s p k j*128+bt s (p+k - 1 - j) % 128
end Go.Proofs.YtifoggpohlegmaaGreatDoor
