/-
  Joined: DskF, RecK, MrgB, TxeP, RciP.
-/
import Derived.Deep.Cut
import Derived.Test.YtdopgkbegjfhjaaGreatDoorR25
import Derived.Test.YtdopgkbegjfhjaaGreatDoorR26

namespace Go.Proofs.YtdopgkbegjfhjaaGreatDoor
set_option maxRecDepth 100000
set_option maxHeartbeats 16000000
open Go.RowKit
set_option linter.unusedVariables false
set_option linter.unusedSimpArgs false

abbrev noT:ByteArray:=⟨#[]⟩
def noD:D2:=(noT,noT)
def appD (d:D2) (t:ByteArray):D2 × Int:=if 65536<t.size then (noD,2) else if ¬ d.1.size+d.2.size≤60000 then (noD,1) else if ¬ d.1.size+d.2.size+t.size≤60000 then (d,7) else ((d.1,d.2++t),0)
def cutD (d:D2) (n:Int):D2 × Int:=if ¬ d.1.size+d.2.size≤60000 then (noD,1) else if ¬ d.2.size=0 then (noD,1) else if ¬ (0≤n∧n≤d.1.size) then (noD,4) else ((d.1.extract 0 n.toNat,noT),0)
def ResD (r:D2 × Int):Ending:=.returned (.tuple #[r.1.val,.int .i64 r.2])

def FrD (w w':World) (d:D2):Prop:=DBox w' w.heap.size d∧Blk w' (w.heap.size+1) 27 [.string ⟨#[]⟩,.string ⟨#[]⟩]∧Below w.heap.size w w'
theorem FrD.new (w:World) (d:D2):FrD w ((w.alloc (.cells #[.string d.1,.string d.2] 27)).alloc (.cells #[.string ⟨#[]⟩,.string ⟨#[]⟩] 27)) d:=by
 have h:=boxD_new w d
 have h2:=Blk.new (w.alloc (.cells #[.string d.1,.string d.2] 27)) 27 [.string ⟨#[]⟩,.string ⟨#[]⟩]
 have hs:(w.alloc (.cells #[.string d.1,.string d.2] 27)).heap.size=w.heap.size+1:=by
  show (w.heap.push _).size=_
  simp
 refine ⟨h.below (bel_new _ _),?_,belD (bel_new w _) (bel_new _ _)⟩
 rw [hs] at h2
 exact h2
theorem FrD.below {w w' w'':World} {d:D2} (h:FrD w w' d) (b:Below w'.heap.size w' w''):FrD w w'' d:=⟨h.1.below b,h.2.1.below b,h.2.2.trans (b.mono (by have:=h.2.1.lt;omega))⟩
theorem FrD.grown {w w' w'':World} {d d':D2} (h:FrD w w' d) (k:w'.grownBy w'' (some w.heap.size)) (hB:DBox w'' w.heap.size d'):FrD w w'' d':=by
 have hl:=h.2.1.lt
 have hn:w.heap.size<w'.heap.size:=by omega
 refine ⟨hB,?_,⟨k.os.trans h.2.2.os,k.tape.trans h.2.2.tape,k.output.trans h.2.2.output,Nat.le_trans h.2.2.size k.size,fun j hj=>?_⟩⟩
 ·exact (k.block _ hl (by intro e;injection e with e;omega)).trans h.2.1
 ·exact (k.block j (by omega) (by intro e;injection e with e;omega)).trans (h.2.2.block j hj)
theorem FrD.cells {w w':World} {d:D2} (h:FrD w w' d):w'.cell? ⟨w.heap.size,0,none⟩=some (.string d.1)∧w'.cell? ⟨w.heap.size,1,none⟩=some (.string d.2)∧w'.cell? ⟨w.heap.size+1,0,none⟩=some (.string ⟨#[]⟩)∧w'.cell? ⟨w.heap.size+1,1,none⟩=some (.string ⟨#[]⟩)∧w'.frozen? ⟨w.heap.size+1,0,none⟩=false∧w'.frozen? ⟨w.heap.size+1,1,none⟩=false:=⟨h.1.c0,h.1.c1,h.2.1.cell 0,h.2.1.cell 1,h.2.1.frozen 0,h.2.1.frozen 1⟩
theorem FrD.fin {w w':World} {d:D2} (h:FrD w w' d) (s q:ByteArray):∃ W,W=(w'.setCell ⟨w.heap.size+1,0,none⟩ (.string s)).setCell ⟨w.heap.size+1,1,none⟩ (.string q)∧W.cell? ⟨w.heap.size+1,0,none⟩=some (.string s)∧W.cell? ⟨w.heap.size+1,1,none⟩=some (.string q)∧Below w.heap.size w W:=
 ⟨_,rfl,((h.2.1.set 0 (.string s)).set 1 (.string q)).cell 0,((h.2.1.set 0 (.string s)).set 1 (.string q)).cell 1,h.2.2.trans ((Below.setCell (Below.refl _ w') (p:=⟨w.heap.size+1,0,none⟩) (Nat.le_succ _) _).trans (Below.setCell (Below.refl _ _) (p:=⟨w.heap.size+1,1,none⟩) (Nat.le_succ _) _))⟩

theorem few_app2 (s q t:ByteArray) (h:s.size+q.size+t.size≤60000):D2.few (s,q++t):=by
 show s.size+(q++t).size≤_
 rw [ByteArray.size_append]
 omega
theorem few_cut (s:ByteArray) (j:Nat) (h:s.size≤60000):D2.few (s.extract 0 j,noT):=by
 show (s.extract 0 j).size+0≤_
 rw [ByteArray.size_extract]
 omega
theorem noT_of {q:ByteArray} (h:q.size=0):q=⟨#[]⟩:=by
 obtain ⟨d⟩:=q
 congr 1
 exact Array.eq_empty_of_size_eq_zero h
theorem emptyD_no {x:ByteArray} (h:¬ x.size=0):x.toList.isEmpty=false:=by
 rw [← decide_eq_emptyBytes]
 simpa using h
theorem cutD_4 (s:ByteArray) (n:Int) (h:s.size+(⟨#[]⟩:ByteArray).size≤60000) (hin:¬ (0≤n∧n≤s.size)):cutD (s,⟨#[]⟩) n=(noD,4):=by
 unfold cutD
 exact (if_neg (not_not_intro h)).trans ((if_neg (not_not_intro (show (⟨#[]⟩:ByteArray).size=0 from rfl))).trans (if_pos hin))
theorem cutD_0 (s:ByteArray) (n:Int) (h:s.size+(⟨#[]⟩:ByteArray).size≤60000) (hin:0≤n∧n≤s.size):cutD (s,⟨#[]⟩) n=((s.extract 0 n.toNat,noT),0):=by
 unfold cutD
 exact (if_neg (not_not_intro h)).trans ((if_neg (not_not_intro (show (⟨#[]⟩:ByteArray).size=0 from rfl))).trans (if_neg (not_not_intro hin)))


def unT:List I3→List Int
 | []=>[]
 | x::xs=>x.1::x.2.1::x.2.2::unT xs
theorem unT_len:∀ xs:List I3,(unT xs).length=3*xs.length
 | []=>rfl
 | x::xs=>by
  simp only [unT,List.length_cons,unT_len xs]
  omega


def okBs (xs:List I3):Bool:=xs.all okB
theorem okBs_step {xs:List I3} {k:Nat} (hk:k<xs.length):okBs (xs.drop k)=(okB (xs.getD k (0,0,0)) && okBs (xs.drop (k+1))):=by
 unfold okBs
 rw [List.drop_eq_getElem_cons hk,List.all_cons,List.getD,List.getElem?_eq_getElem hk,Option.getD_some]
theorem bugsOK_is (a:Option Addr) (n cap:Nat) (xs:List I3) (w:World) (h:Instrs w a n cap xs) (hn:n≤1048576) :
  Calls Tryz.prog 133 #[.slice a n cap] w fun e w'=>e=.returned (.bool (okBs xs))∧Below w.heap.size w w':=by
 have hl:=h.1
 obtain ⟨r,hr⟩:∃ r,r=okBs xs:=⟨_,rfl⟩
 rw [← hr]
 have HR:Hid (r=okBs (xs.drop 0)):=by rw [Hid];simpa using hr
 clear hr
 go_enter Tryz.func133,Tryz.ntmps133
 go_wp2_with fail
 go_loopw [7] (fun si wr=>∃ k:Nat,k≤n∧si=.int .i64 k∧Hid (r=okBs (xs.drop k))∧Below w.heap.size w wr) (fun si _=>n - (intOf si).toNat)
 case atStart=>exact ⟨0,by omega,rfl,HR,Below.refl _ _⟩
 case round =>
  clear HR
  obtain ⟨k,hk,rfl,HR,bw⟩:=hrel
  by_cases hlt:k<n
  ·obtain ⟨_,_,_,_,hcase⟩:=h.below bw
   rcases hcase with e0 | ⟨b,off,rfl,hb,hc⟩
   ·omega
   obtain ⟨d0,d1,d2⟩:=hc k hlt
   clear hc hb
   have hst:=okBs_step (xs:=xs) (k:=k) (by omega)
   have kB:=implBugOK_is (xs.getD k (0,0,0))
   generalize xs.getD k (0,0,0)=x at *
   have HS:Hid (okBs (xs.drop k)=(okB x && okBs (xs.drop (k+1)))):=hst
   clear hst
   have hlt':(k:Int)<(n:Int):=by omega
   have hk0:(0:Int)≤(k:Int):=by omega
   cases hx:okB x
   ·have HF:Hid (r=false):=by rw [Hid,HR.out,HS.out,hx];rfl
    rw [hx] at kB
    clear hx HS HR
    obtain ⟨x0,x1,x2⟩:=x
    unfold I3.val at kB
    simp only at d0 d1 d2 kB
    go_wp2_with fail
    refine (kB _).mono ?_
    rintro e w1 ⟨rfl,hb1⟩
    have bw1:=bel_trans bw (bel_trans (by go_grown) hb1)
    clear hb1 d0 d1 d2 kB
    go_wp2
    go_ret
    exact ⟨by rw [HF.out];rfl,bw1⟩
   ·have HF:Hid (r=okBs (xs.drop (k+1))):=by rw [Hid,HR.out,HS.out,hx];rfl
    rw [hx] at kB
    clear hx HS HR
    obtain ⟨x0,x1,x2⟩:=x
    unfold I3.val at kB
    simp only at d0 d1 d2 kB
    go_wp2_with fail
    refine (kB _).mono ?_
    rintro e w1 ⟨rfl,hb1⟩
    have bw1:=bel_trans bw (bel_trans (by go_grown) hb1)
    clear hb1 d0 d1 d2 kB
    go_wp2
    go_roundw
    case rel=>exact ⟨k+1,by omega,by go_num,HF,bw1⟩
    case measure=>simp [intOf];omega
  ·obtain rfl:k=n:=by omega
   have HF:Hid (r=true):=by rw [Hid,HR.out,List.drop_of_length_le (by omega)];rfl
   clear HR
   go_wp2
   go_ret
   exact ⟨by rw [HF.out];rfl,bw⟩


def txtN (e:E3):List Int:=((e.2.1.length:Int)::rowNums e.2.1)++e.2.2
def txtE (e:E3):ByteArray:=e.1++strOfNums (packL (txtN e))
theorem riseB_okB {xs:List I3} (h:riseB xs=true):∀ x ∈ xs,okB x=true:=by
 intro x hx
 obtain ⟨t,ht,rfl⟩:=List.getElem_of_mem hx
 have:=allR_at h ht
 simp only [bStep,Bool.and_eq_true] at this
 simpa [List.getD,List.getElem?_eq_getElem ht] using this.1
theorem okB_small {x:I3} (h:okB x=true):(0≤x.1∧x.1≤14)∧(0≤x.2.1∧x.2.1≤2)∧0≤x.2.2∧x.2.2≤5:=by
 unfold okB at h
 split at h
 ·simp only [Bool.and_eq_true,decide_eq_true_eq] at h
  omega
 ·split at h
  ·simp only [Bool.and_eq_true,inB,decide_eq_true_eq] at h
   omega
  ·cases h
theorem riseI_itOk {xs:List Int} (h:riseI xs=true):∀ x ∈ xs,0≤x∧x≤22:=by
 intro x hx
 obtain ⟨t,ht,rfl⟩:=List.getElem_of_mem hx
 have:=(riseI_at h t ht).2
 simp only [List.getD,List.getElem?_eq_getElem ht,Option.getD_some,itOk,decide_eq_true_eq] at this
 omega
theorem entOk_parts {e:E3} (h:entOk e=true):keyOk9 e.1=true∧riseB e.2.1=true∧riseI e.2.2=true∧e.2.1.length≤30:=by
 simp only [entOk,Bool.and_eq_true,decide_eq_true_eq] at h
 exact h
theorem txtN_ok {e:E3} (h:entOk e=true):allOk (txtN e):=by
 obtain ⟨_,h1,h2,h3⟩:=entOk_parts h
 intro z hz
 unfold txtN at hz
 rcases List.mem_append.1 hz with hz | hz
 ·rcases List.mem_cons.1 hz with rfl | hz
  ·omega
  ·unfold rowNums at hz
   obtain ⟨x,hx,hz⟩:=List.mem_flatMap.1 hz
   have:=okB_small (riseB_okB h1 x hx)
   simp only [List.mem_cons,List.not_mem_nil,or_false] at hz
   omega
 ·have:=riseI_itOk h2 z hz
  omega
theorem txtN_len {e:E3} (h:entOk e=true):(txtN e).length≤114:=by
 have h1:=entOk_bugs h
 have h2:=entOk_foot h
 unfold txtN
 rw [List.length_append,List.length_cons,rowNums_length]
 omega
theorem packL_size {zs:List Int}:(strOfNums (packL zs)).size≤5+5*zs.length:=by
 rw [strOfNums_size]
 unfold packL
 rw [List.length_append]
 have:=packs_len zs
 have:=pack_len zs.length
 omega


theorem num_pack {s:ByteArray} {p n k:Nat} (h:Num s p n k):(pack n).length=k∧∀ i,i<k→(bt s (p+i):Int)=(pack n).getD i 0:=by
 obtain ⟨⟨h1,h2,h3,h4,h5⟩,h6,rfl,h8⟩:=h
 have q0:=bt_lt s p
 have q1:=bt_lt s (p+1)
 have q2:=bt_lt s (p+2)
 have q3:=bt_lt s (p+3)
 have q4:=bt_lt s (p+4)
 rcases (by omega:k=1∨k=2∨k=3∨k=4∨k=5) with rfl | rfl | rfl | rfl | rfl
 ·simp only [Nat.add_sub_cancel] at h5
  have e:val s p 1=bt s p:=by show bt s p % 128=_;omega
  rw [e,pack_small h5]
  refine ⟨rfl,fun i hi=>?_⟩
  obtain rfl:i=0:=by omega
  rfl
 ·have a0:=h4 0 (by omega)
  rw [show p+2 - 1=p+1 from rfl] at h5 h6
  rw [Nat.add_zero] at a0
  have e:val s p 2=bt s p % 128+bt s (p+1) % 128*128:=rfl
  have hn:1≤bt s (p+1):=by rcases Nat.eq_zero_or_pos (bt s (p+1)) with g | g;exact absurd ⟨by omega,g⟩ h6;exact g
  rw [e,pack2 (by omega) (by omega)]
  refine ⟨rfl,fun i hi=>?_⟩
  rcases (by omega:i=0∨i=1) with rfl | rfl
  ·rw [Nat.add_zero];show _=((bt s p % 128+bt s (p+1) % 128*128:Nat):Int) % 128+128;omega
  ·show _=((bt s p % 128+bt s (p+1) % 128*128:Nat):Int) / 128;omega
 ·have a0:=h4 0 (by omega)
  have a1:=h4 1 (by omega)
  rw [show p+3 - 1=p+2 from rfl] at h5 h6
  rw [Nat.add_zero] at a0
  have e:val s p 3=bt s p % 128+bt s (p+1) % 128*128+bt s (p+2) % 128*16384:=rfl
  have hn:1≤bt s (p+2):=by rcases Nat.eq_zero_or_pos (bt s (p+2)) with g | g;exact absurd ⟨by omega,g⟩ h6;exact g
  rw [e,pack3 (by omega) (by omega)]
  refine ⟨rfl,fun i hi=>?_⟩
  rcases (by omega:i=0∨i=1∨i=2) with rfl | rfl | rfl
  ·rw [Nat.add_zero];show _=((bt s p % 128+bt s (p+1) % 128*128+bt s (p+2) % 128*16384:Nat):Int) % 128+128;omega
  ·show _=((bt s p % 128+bt s (p+1) % 128*128+bt s (p+2) % 128*16384:Nat):Int) / 128 % 128+128;omega
  ·show _=((bt s p % 128+bt s (p+1) % 128*128+bt s (p+2) % 128*16384:Nat):Int) / 16384;omega
 ·have a0:=h4 0 (by omega)
  have a1:=h4 1 (by omega)
  have a2:=h4 2 (by omega)
  rw [show p+4 - 1=p+3 from rfl] at h5 h6
  rw [Nat.add_zero] at a0
  have e:val s p 4=bt s p % 128+bt s (p+1) % 128*128+bt s (p+2) % 128*16384+bt s (p+3) % 128*2097152:=rfl
  have hn:1≤bt s (p+3):=by rcases Nat.eq_zero_or_pos (bt s (p+3)) with g | g;exact absurd ⟨by omega,g⟩ h6;exact g
  rw [e,pack4 (by omega) (by omega)]
  refine ⟨rfl,fun i hi=>?_⟩
  rcases (by omega:i=0∨i=1∨i=2∨i=3) with rfl | rfl | rfl | rfl
  ·rw [Nat.add_zero];show _=((bt s p % 128+bt s (p+1) % 128*128+bt s (p+2) % 128*16384+bt s (p+3) % 128*2097152:Nat):Int) % 128+128;omega
  ·show _=((bt s p % 128+bt s (p+1) % 128*128+bt s (p+2) % 128*16384+bt s (p+3) % 128*2097152:Nat):Int) / 128 % 128+128;omega
  ·show _=((bt s p % 128+bt s (p+1) % 128*128+bt s (p+2) % 128*16384+bt s (p+3) % 128*2097152:Nat):Int) / 16384 % 128+128;omega
  ·show _=((bt s p % 128+bt s (p+1) % 128*128+bt s (p+2) % 128*16384+bt s (p+3) % 128*2097152:Nat):Int) / 2097152;omega
 ·have a0:=h4 0 (by omega)
  have a1:=h4 1 (by omega)
  have a2:=h4 2 (by omega)
  have a3:=h4 3 (by omega)
  rw [show p+5 - 1=p+4 from rfl] at h5 h6
  rw [Nat.add_zero] at a0
  have e:val s p 5=bt s p % 128+bt s (p+1) % 128*128+bt s (p+2) % 128*16384+bt s (p+3) % 128*2097152+bt s (p+4) % 128*268435456:=rfl
  have hn:1≤bt s (p+4):=by rcases Nat.eq_zero_or_pos (bt s (p+4)) with g | g;exact absurd ⟨by omega,g⟩ h6;exact g
  rw [e,pack5 (by omega)]
  refine ⟨rfl,fun i hi=>?_⟩
  rcases (by omega:i=0∨i=1∨i=2∨i=3∨i=4) with rfl | rfl | rfl | rfl | rfl
  ·rw [Nat.add_zero];show _=((bt s p % 128+bt s (p+1) % 128*128+bt s (p+2) % 128*16384+bt s (p+3) % 128*2097152+bt s (p+4) % 128*268435456:Nat):Int) % 128+128;omega
  ·show _=((bt s p % 128+bt s (p+1) % 128*128+bt s (p+2) % 128*16384+bt s (p+3) % 128*2097152+bt s (p+4) % 128*268435456:Nat):Int) / 128 % 128+128;omega
  ·show _=((bt s p % 128+bt s (p+1) % 128*128+bt s (p+2) % 128*16384+bt s (p+3) % 128*2097152+bt s (p+4) % 128*268435456:Nat):Int) / 16384 % 128+128;omega
  ·show _=((bt s p % 128+bt s (p+1) % 128*128+bt s (p+2) % 128*16384+bt s (p+3) % 128*2097152+bt s (p+4) % 128*268435456:Nat):Int) / 2097152 % 128+128;omega
  ·show _=((bt s p % 128+bt s (p+1) % 128*128+bt s (p+2) % 128*16384+bt s (p+3) % 128*2097152+bt s (p+4) % 128*268435456:Nat):Int) / 268435456;omega
theorem getD_app9 {xs ys:List Int} {i:Nat}:(xs++ys).getD i 0=if i<xs.length then xs.getD i 0 else ys.getD (i - xs.length) 0:=by
 simp only [List.getD]
 split
 ·rw [List.getElem?_append_left (by assumption)]
 ·rw [List.getElem?_append_right (by omega)]
theorem numsAt_pack {s:ByteArray}:∀ {zs:List Nat} {p q:Nat},NumsAt s p zs q→q=p+(packsN zs).length∧∀ i,i<(packsN zs).length→(bt s (p+i):Int)=(packsN zs).getD i 0
 | [],p,q,h=>by
  obtain rfl:q=p:=h
  exact ⟨rfl,fun i hi=>by cases hi⟩
 | z::zs,p,q,h=>by
  obtain ⟨k,hk,hr⟩:=h
  obtain ⟨e1,e2⟩:=num_pack hk
  obtain ⟨e3,e4⟩:=numsAt_pack hr
  have e5:packsN (z::zs)=pack z++packsN zs:=rfl
  rw [e5,List.length_append]
  refine ⟨by omega,fun i hi=>?_⟩
  rw [getD_app9]
  split
  ·exact e2 i (by omega)
  ·have:=e4 (i - (pack z).length) (by omega)
   rw [← this]
   congr 2
   omega
theorem text_of_bt {s:ByteArray} {xs:List Int} (h:s.size=xs.length) (hb:∀ i,i<xs.length→(bt s i:Int)=xs.getD i 0):s=strOfNums xs:=by
 apply ByteArray.ext
 apply Array.ext
 ·show s.size=(strOfNums xs).size
  rw [strOfNums_size];exact h
 ·intro i h1 h2
  have h3:i<s.size:=h1
  have hi:i<xs.length:=by omega
  have e1:=hb i hi
  have e2:=bt_get s i h3
  have e3:(strOfNums xs).data[i]'h2=UInt8.ofNat (xs[i]'hi).toNat:=by simp [strOfNums]
  rw [e3]
  have e4:xs.getD i 0=xs[i]'hi:=by simp [List.getD,List.getElem?_eq_getElem hi]
  rw [← e4,← e1,Int.toNat_natCast,← e2]
  show s.data[i]=UInt8.ofNat (s.data[i]).toNat
  simp
theorem packsN_packs (zs:List Nat):packs (ofNats zs)=packsN zs:=by
 unfold packs packsN ofNats
 induction zs with
 | nil=>rfl
 | cons z zs ih=>simp only [List.map_cons,List.flatMap_cons,ih,Int.toNat_natCast]
theorem listed_text {s:ByteArray} {zs:List Nat} (h:Listed s zs):s=strOfNums (packL (ofNats zs)):=by
 obtain ⟨k,hk,_,hz⟩:=h
 obtain ⟨e1,e2⟩:=num_pack hk
 obtain ⟨e3,e4⟩:=numsAt_pack hz
 have e5:packL (ofNats zs)=pack zs.length++packsN zs:=by
  unfold packL
  rw [packsN_packs,show (ofNats zs).length=zs.length from List.length_map ..]
 rw [e5]
 refine text_of_bt (by rw [List.length_append];omega) (fun i hi=>?_)
 rw [List.length_append] at hi
 rw [getD_app9]
 split
 ·have:=e2 i (by omega)
  rwa [Nat.zero_add] at this
 ·have:=e4 (i - (pack zs.length).length) (by omega)
  rw [← this]
  congr 2
  omega
theorem triples_len9:∀ (m r:Nat) (zs:List Int),zs.length=3*m+r→r<3→(triples zs).length=m
 | 0,_,[],_,_=>rfl
 | 0,_,[_],_,_=>rfl
 | 0,_,[_,_],_,_=>rfl
 | 0,r,_::_::_::_,h,hr=>by simp only [List.length_cons] at h;omega
 | m+1,r,[],h,hr=>by simp at h;omega
 | m+1,r,[_],h,hr=>by simp only [List.length_cons,List.length_nil] at h;omega
 | m+1,r,[_,_],h,hr=>by simp only [List.length_cons,List.length_nil] at h;omega
 | m+1,r,a::b::c::zs,h,hr=>by
  show (triples zs).length+1=m+1
  rw [triples_len9 m r zs (by simp only [List.length_cons] at h;omega) hr]
theorem triples_get9:∀ (m r:Nat) (zs:List Int) (i:Nat),zs.length=3*m+r→r<3→i<m→(triples zs).getD i (0,0,0)=(zs.getD (3*i) 0,zs.getD (3*i+1) 0,zs.getD (3*i+2) 0)
 | 0,_,_,i,_,_,hi=>by omega
 | m+1,r,[],i,h,hr,hi=>by simp at h;omega
 | m+1,r,[_],i,h,hr,hi=>by simp only [List.length_cons,List.length_nil] at h;omega
 | m+1,r,[_,_],i,h,hr,hi=>by simp only [List.length_cons,List.length_nil] at h;omega
 | m+1,r,a::b::c::zs,0,h,hr,hi=>rfl
 | m+1,r,a::b::c::zs,i+1,h,hr,hi=>by
  have ih:=triples_get9 m r zs i (by simp only [List.length_cons] at h;omega) hr (by omega)
  show (triples zs).getD i (0,0,0)=_
  rw [ih]
  rw [show 3*(i+1)=3*i+1+1+1 by omega]
  simp [List.getD]
theorem unT_triples:∀ (m:Nat) (zs:List Int),zs.length=3*m→unT (triples zs)=zs
 | 0,[],_=>rfl
 | 0,_::_,h=>by simp at h
 | m+1,[],h=>by simp at h
 | m+1,[_],h=>by simp only [List.length_cons,List.length_nil] at h;omega
 | m+1,[_,_],h=>by simp only [List.length_cons,List.length_nil] at h;omega
 | m+1,a::b::c::zs,h=>by
  show a::b::c::unT (triples zs)=_
  rw [unT_triples m zs (by simp only [List.length_cons] at h;omega)]
theorem unT_row:∀ xs:List I3,rowNums xs=unT xs
 | []=>rfl
 | x::xs=>by
  show [x.1,x.2.1,x.2.2]++rowNums xs=_
  rw [unT_row xs]
  rfl
theorem parse_back:∀ (k:Nat) (zs:List Int) (rows:List (List I3)),parse k zs=some rows→(∀ z ∈ zs,0≤z)→progNums rows=zs
 | 0,[],rows,h,_=>by
  have:rows=[]:=(Option.some.inj h).symm
  rw [this];rfl
 | 0,_::_,rows,h,_=>by cases h
 | k+1,[],rows,h,_=>by cases h
 | k+1,n::zs,rows,h,hz=>by
  by_cases hl:(zs.length:Int)<3*n
  ·rw [parse_short hl] at h;cases h
  ·rw [parse_step hl] at h
   obtain ⟨r',hr,rfl⟩:=Option.map_eq_some_iff.1 h
   have h0:=hz n List.mem_cons_self
   have ih:=parse_back k _ r' hr (fun z hm=>hz z (List.mem_cons_of_mem _ (List.mem_of_mem_drop hm)))
   have hl2:(zs.take (3*n.toNat)).length=3*n.toNat:=by rw [List.length_take];omega
   have e1:progNums (triples (zs.take (3*n.toNat))::r')=((triples (zs.take (3*n.toNat))).length:Int)::rowNums (triples (zs.take (3*n.toNat)))++progNums r':=by
    unfold progNums
    rw [List.flatMap_cons]
   rw [e1,triples_length n.toNat _ hl2,unT_row,unT_triples n.toNat _ hl2,ih,List.cons_append,List.take_append_drop]
   congr 1
   omega
theorem ver_text {t:ByteArray} {rows:List (List I3)} (h:IsProg t rows 0):progOk rows=true∧strOfNums (packL (progNums rows))=t:=by
 rcases h with ⟨_,zs,hL,hp,ho⟩ | ⟨h,_⟩
 ·refine ⟨ho,?_⟩
  rw [parse_back 3 _ _ hp (fun z hz=>(listed_small9 hL z hz).1)]
  exact (listed_text hL).symm
 ·cases h
theorem ent_text {t:ByteArray} {e:E3} (h:RdOk t e):entOk e=true∧txtE e=t:=by
 obtain ⟨_,h15,zs,hL,h1,h3,rfl,ho⟩:=h
 refine ⟨ho,?_⟩
 have hl:(ofNats zs).length=zs.length:=List.length_map ..
 match zs,h1 with
 | z::zs,_ =>
  rw [show (z::zs).getD 0 0=z from rfl] at h3
  have hk:((ofNats zs).take (3*z)).length=3*z:=by
   rw [List.length_take,show (ofNats zs).length=zs.length from List.length_map ..]
   simp only [List.length_cons] at h3
   omega
  have e0:entZ (t.extract 0 15) (z::zs)=(t.extract 0 15,triples ((ofNats zs).take (3*z)),(ofNats zs).drop (3*z)):=by
   unfold entZ
   rw [show (z::zs).getD 0 0=z from rfl,show ofNats (z::zs)=(z:Int)::ofNats zs from rfl,Nat.add_comm 1 (3*z)]
   rfl
  rw [e0]
  have e1:txtN (t.extract 0 15,triples ((ofNats zs).take (3*z)),(ofNats zs).drop (3*z))=ofNats (z::zs):=by
   unfold txtN
   simp only
   rw [triples_length z _ hk,unT_row,unT_triples z _ hk,List.cons_append,List.take_append_drop]
   rfl
  unfold txtE
  rw [e1,← listed_text hL]
  apply ByteArray.ext
  have hz:t.data.size=t.size:=rfl
  simp [ByteArray.data_append,ByteArray.data_extract,Array.extract_append_extract]
  first | done | (rw [hz];simp;omega) | (rw [hz];simp)
theorem com_text {t:ByteArray} {zs:List Nat} (hL:Listed t zs) (h3:zs.length % 3=0):strOfNums (packL (unT (triples (ofNats zs))))=t:=by
 have hl:(ofNats zs).length=zs.length:=List.length_map ..
 rw [unT_triples (zs.length / 3) _ (by omega)]
 exact (listed_text hL).symm
end Go.Proofs.YtdopgkbegjfhjaaGreatDoor
