/-
  Joined: Leads, CodeI, InstrS.
-/
import Derived.Test.YtnffeclgboomoaaGreatDoorR03
import Derived.Test.YtnffeclgboomoaaGreatDoorR05

namespace Go.Proofs.YtnffeclgboomoaaGreatDoor
set_option maxRecDepth 100000
set_option maxHeartbeats 16000000
open Go.RowKit

def VB (x:I3) (k n:Int):Bool:=if x.1=7 then inB x.2.2 (k+1) n else true

theorem KQ (v:Value) (w:World):(Instr.typeAssert (.iface 288 v) 262 265 true).run Tryz.prog w=.ok (.tuple #[.int .i64 0,.bool false]) w:=by kernel_rfl
theorem NR (v:Value) (w:World):(Instr.typeAssert (.iface 287 v) 262 265 true).run Tryz.prog w=.ok (.tuple #[.int .i64 0,.bool false]) w:=by kernel_rfl
theorem RT (v:Value) (w:World):(Instr.typeAssert (.iface 289 v) 262 265 true).run Tryz.prog w=.ok (.tuple #[.int .i64 0,.bool false]) w:=by kernel_rfl
theorem Gl (v:Value) (w:World):(Instr.typeAssert (.iface 291 v) 262 265 true).run Tryz.prog w=.ok (.tuple #[.int .i64 0,.bool false]) w:=by kernel_rfl
theorem KR (v:Value) (w:World):(Instr.typeAssert (.iface 265 v) 262 265 true).run Tryz.prog w=.ok (.tuple #[v,.bool true]) w:=by kernel_rfl
theorem GI (w:World):(Instr.typeAssert .nilIface 262 265 true).run Tryz.prog w=.ok (.tuple #[.int .i64 0,.bool false]) w:=by kernel_rfl

theorem L5 (a b k n:Int) (w:World):Calls Tryz.prog 159 #[.agg #[.int .i64 1,.int .i64 a,.int .i64 b],.int .i64 k,.int .i64 n] w fun e w'=>e=.returned (.bool true)∧Below w.heap.size w w':=by
 have ta:=KQ (.int .i64 b)
 go_enter Tryz.func159,Tryz.ntmps159
 go_wp2_with fail
 refine (Te a b _).mono ?_
 rintro e w1 ⟨rfl,hb1⟩
 have hb:Below w.heap.size w w1:=Zb (by go_grown) hb1
 clear hb1
 go_wp2
 go_ret
 exact ⟨rfl,hb⟩

theorem L6 (a b k n:Int) (w:World):Calls Tryz.prog 159 #[.agg #[.int .i64 2,.int .i64 a,.int .i64 b],.int .i64 k,.int .i64 n] w fun e w'=>e=.returned (.bool true)∧Below w.heap.size w w':=by
 have ta:=NR (.int .i64 b)
 go_enter Tryz.func159,Tryz.ntmps159
 go_wp2_with fail
 refine (Tf a b _).mono ?_
 rintro e w1 ⟨rfl,hb1⟩
 have hb:Below w.heap.size w w1:=Zb (by go_grown) hb1
 clear hb1
 go_wp2
 go_ret
 exact ⟨rfl,hb⟩

theorem L7 (a b k n:Int) (w:World):Calls Tryz.prog 159 #[.agg #[.int .i64 3,.int .i64 a,.int .i64 b],.int .i64 k,.int .i64 n] w fun e w'=>e=.returned (.bool true)∧Below w.heap.size w w':=by
 have ta:=RT (.int .i64 b)
 go_enter Tryz.func159,Tryz.ntmps159
 go_wp2_with fail
 refine (Tg a b _).mono ?_
 rintro e w1 ⟨rfl,hb1⟩
 have hb:Below w.heap.size w w1:=Zb (by go_grown) hb1
 clear hb1
 go_wp2
 go_ret
 exact ⟨rfl,hb⟩

theorem L8 (a b k n:Int) (w:World):Calls Tryz.prog 159 #[.agg #[.int .i64 4,.int .i64 a,.int .i64 b],.int .i64 k,.int .i64 n] w fun e w'=>e=.returned (.bool true)∧Below w.heap.size w w':=by
 have ta:=RT (.int .i64 b)
 go_enter Tryz.func159,Tryz.ntmps159
 go_wp2_with fail
 refine (Th a b _).mono ?_
 rintro e w1 ⟨rfl,hb1⟩
 have hb:Below w.heap.size w w1:=Zb (by go_grown) hb1
 clear hb1
 go_wp2
 go_ret
 exact ⟨rfl,hb⟩

theorem L9 (a b k n:Int) (w:World):Calls Tryz.prog 159 #[.agg #[.int .i64 5,.int .i64 a,.int .i64 b],.int .i64 k,.int .i64 n] w fun e w'=>e=.returned (.bool true)∧Below w.heap.size w w':=by
 have ta:=Gl (.int .i64 b)
 go_enter Tryz.func159,Tryz.ntmps159
 go_wp2_with fail
 refine (Ti a b _).mono ?_
 rintro e w1 ⟨rfl,hb1⟩
 have hb:Below w.heap.size w w1:=Zb (by go_grown) hb1
 clear hb1
 go_wp2
 go_ret
 exact ⟨rfl,hb⟩

theorem Ka (a b k n:Int) (w:World):Calls Tryz.prog 159 #[.agg #[.int .i64 6,.int .i64 a,.int .i64 b],.int .i64 k,.int .i64 n] w fun e w'=>e=.returned (.bool true)∧Below w.heap.size w w':=by
 have ta:=Gl (.int .i64 b)
 go_enter Tryz.func159,Tryz.ntmps159
 go_wp2_with fail
 refine (Tj a b _).mono ?_
 rintro e w1 ⟨rfl,hb1⟩
 have hb:Below w.heap.size w w1:=Zb (by go_grown) hb1
 clear hb1
 go_wp2
 go_ret
 exact ⟨rfl,hb⟩

theorem Kc (a b k n:Int) (w:World):Calls Tryz.prog 159 #[.agg #[.int .i64 8,.int .i64 a,.int .i64 b],.int .i64 k,.int .i64 n] w fun e w'=>e=.returned (.bool true)∧Below w.heap.size w w':=by
 have ta:=RT (.int .i64 b)
 go_enter Tryz.func159,Tryz.ntmps159
 go_wp2_with fail
 refine (Tl a b _).mono ?_
 rintro e w1 ⟨rfl,hb1⟩
 have hb:Below w.heap.size w w1:=Zb (by go_grown) hb1
 clear hb1
 go_wp2
 go_ret
 exact ⟨rfl,hb⟩

theorem L4 (c a b k n:Int) (w:World) (h:c≠1∧c≠2∧c≠3∧c≠4∧c≠5∧c≠6∧c≠7∧c≠8):Calls Tryz.prog 159 #[.agg #[.int .i64 c,.int .i64 a,.int .i64 b],.int .i64 k,.int .i64 n] w fun e w'=>e=.returned (.bool true)∧Below w.heap.size w w':=by
 have ta:=GI
 go_enter Tryz.func159,Tryz.ntmps159
 go_wp2_with fail
 refine (Td c a b _ h).mono ?_
 rintro e w1 ⟨rfl,hb1⟩
 have hb:Below w.heap.size w w1:=Zb (by go_grown) hb1
 clear hb1 h
 go_wp2
 go_ret
 exact ⟨rfl,hb⟩

theorem Kb (a b k n:Int) (w:World):Calls Tryz.prog 159 #[.agg #[.int .i64 7,.int .i64 a,.int .i64 b],.int .i64 k,.int .i64 n] w fun e w'=>e=.returned (.bool (inB b (k+1) n))∧Below w.heap.size w w':=by
 obtain ⟨p,hp⟩:∃ p,p=inB b (k+1) n:=⟨_,rfl⟩
 rw [← hp]
 have ta:=KR (.int .i64 b)
 by_cases h1:k<b
 ·have hp':p=decide (b≤n):=by
   subst hp
   by_cases h2:b≤n
   ·rw [decide_eq_true h2,ZC];omega
   rw [decide_eq_false h2,Yl];omega
  clear hp
  subst hp'
  go_enter Tryz.func159,Tryz.ntmps159
  go_wp2_with fail
  refine (Vu a b _).mono ?_
  rintro e w1 ⟨rfl,hb1⟩
  have hb:Below w.heap.size w w1:=Zb (by go_grown) hb1
  clear hb1
  go_wp2
  go_ret
  exact ⟨rfl,hb⟩
 have hp':p=false:=by
  subst hp
  rw [Yl];omega
 clear hp
 subst hp'
 go_enter Tryz.func159,Tryz.ntmps159
 go_wp2_with fail
 refine (Vu a b _).mono ?_
 rintro e w1 ⟨rfl,hb1⟩
 have hb:Below w.heap.size w w1:=Zb (by go_grown) hb1
 clear hb1
 go_wp2
 go_ret
 exact ⟨rfl,hb⟩

theorem Mm (x:I3) (k n:Int) (w:World):Calls Tryz.prog 159 #[x.val,.int .i64 k,.int .i64 n] w fun e w'=>e=.returned (.bool (VB x k n))∧Below w.heap.size w w':=by
 obtain ⟨c,a,b⟩:=x
 unfold I3.val VB
 rcases VX (c,a,b) with h | h | h | h | h | h | h | h | h

 ·obtain rfl:c=1:=h
  simpa using L5 a b k n w
 ·obtain rfl:c=2:=h
  simpa using L6 a b k n w
 ·obtain rfl:c=3:=h
  simpa using L7 a b k n w
 ·obtain rfl:c=4:=h
  simpa using L8 a b k n w
 ·obtain rfl:c=5:=h
  simpa using L9 a b k n w
 ·obtain rfl:c=6:=h
  simpa using Ka a b k n w
 ·obtain rfl:c=7:=h
  simpa using Kb a b k n w
 ·obtain rfl:c=8:=h
  simpa using Kc a b k n w
 have h':=h
 obtain ⟨h1,h2,h3,h4,h5,h6,h7,h8⟩:=h
 simp only [] at h7
 rw [if_neg h7]
 exact L4 c a b k n w h'


def Yr (n:Nat):Nat→List I3→Bool
 | _,[]=>true
 | i,x::xs=>(okI x && VB x i n) && Yr n (i+1) xs

def Ye (xs:List I3):Bool:=decide (xs.length≤6) && Yr xs.length 0 xs

theorem Sq {n k:Nat} {xs:List I3} (hk:k<xs.length):Yr n k (xs.drop k)=((okI (xs.getD k (0,0,0)) && VB (xs.getD k (0,0,0)) k n) && Yr n (k+1) (xs.drop (k+1))):=by
 rw [List.drop_eq_getElem_cons hk]
 show ((okI (xs[k]) && VB (xs[k]) k n) && Yr n (k+1) (xs.drop (k+1)))=_
 simp [List.getD,hk]

theorem PN (a:Option Addr) (len cap:Nat) (w:World) (hl:len≤maxLen) (hlen:6<len) :
  Calls Tryz.prog 111 #[.slice a len cap] w fun e w'=>e=.returned (.bool false)∧Below w.heap.size w w':=by
 unfold maxLen at hl
 go_enter Tryz.func111,Tryz.ntmps111
 go_wp2
 go_ret
 exact ⟨rfl,by go_grown⟩

theorem Q7 (a:Option Addr) (len cap:Nat) (xs:List I3) (w:World) (h:Zm w a len cap xs) (hlen:len≤6) :
  Calls Tryz.prog 111 #[.slice a len cap] w fun e w'=>e=.returned (.bool (Yr len 0 xs))∧Below w.heap.size w w':=by
 obtain ⟨fin,hfin⟩:∃ fin,fin=Yr len 0 xs:=⟨_,rfl⟩
 rw [← hfin]
 have hfin':Hid (fin=Yr len 0 (xs.drop 0)):=hfin
 clear hfin
 obtain ⟨hl,hlc,hcm,_,hcase⟩:=h
 unfold maxLen at hcm
 go_enter Tryz.func111,Tryz.ntmps111
 go_wp2
 go_loopw [10] (fun si wr=>∃ (k:Nat),k≤len∧si=.int .i64 k∧Hid (fin=Yr len k (xs.drop k))∧Below w.heap.size w wr) (fun si _=>len - (intOf si).toNat)
 case atStart=>exact ⟨0,by omega,rfl,hfin',by go_grown⟩
 case round =>
  obtain ⟨k,hk,rfl,hH,hbel⟩:=hrel
  by_cases hlt:k<len
  ·rcases hcase with h0 | ⟨b,off,rfl,hblt,hcell⟩
   ·omega
   have hlt2:(k:Int)<(len:Int):=by omega
   obtain ⟨c0,c1,c2⟩:=hcell k hlt
   have hst:=Sq (n:=len) (xs:=xs) (k:=k) (by omega)
   generalize xs.getD k (0,0,0)=x at c0 c1 c2 hst
   have hst':Hid (Yr len k (xs.drop k)=((okI x && VB x k len) && Yr len (k+1) (xs.drop (k+1)))):=hst
   clear hst hcell
   have d0:wr.cell? ⟨b,off+k*3,none⟩=some (.int .i64 x.1):=by rw [hbel.cell (p:=⟨b,_,none⟩) hblt];exact c0
   have d1:wr.cell? ⟨b,off+k*3+1,none⟩=some (.int .i64 x.2.1):=by rw [hbel.cell (p:=⟨b,_,none⟩) hblt];exact c1
   have d2:wr.cell? ⟨b,off+k*3+2,none⟩=some (.int .i64 x.2.2):=by rw [hbel.cell (p:=⟨b,_,none⟩) hblt];exact c2
   clear c0 c1 c2
   go_wp2_with fail
   refine (Mg x _).mono ?_
   rintro e w1 ⟨rfl,hb1⟩
   have e0:w1.cell? ⟨wr.heap.size,0,none⟩=some (.int .i64 x.1):=by rw [hb1.cell (by simp)];simp [go_sem]
   have e1:w1.cell? ⟨wr.heap.size,1,none⟩=some (.int .i64 x.2.1):=by rw [hb1.cell (by simp)];simp [go_sem]
   have e2:w1.cell? ⟨wr.heap.size,2,none⟩=some (.int .i64 x.2.2):=by rw [hb1.cell (by simp)];simp [go_sem]
   have hb2:Below w.heap.size w w1:=Zb hbel (Zb (by go_grown) hb1)
   clear hb1 hbel d0 d1 d2
   cases hp:okI x
   ·have hff:fin=false:=by rw [hH.out,hst'.out,hp];rfl
    subst hff
    clear hH hst' hp
    go_wp2
    go_ret
    exact ⟨rfl,hb2⟩
   go_wp2_with fail
   refine (Mm x _ _ _).mono ?_
   rintro e w2 ⟨rfl,hb3⟩
   have hb4:=Zb hb2 hb3
   clear hb2 hb3 e0 e1 e2
   cases hq:VB x k len
   ·have hff:fin=false:=by rw [hH.out,hst'.out,hp,hq];rfl
    subst hff
    clear hH hst' hp hq
    go_wp2
    go_ret
    exact ⟨rfl,hb4⟩
   have hH':Hid (fin=Yr len (k+1) (xs.drop (k+1))):=by rw [Hid,hH.out,hst'.out,hp,hq];rfl
   clear hH hst' hp hq
   go_wp2
   go_roundw
   case rel=>exact ⟨k+1,by omega,by go_num,hH',hb4⟩
   case measure=>simp [intOf];omega
  obtain rfl:k=len:=by omega
  have hd:Yr k k (xs.drop k)=true:=by rw [List.drop_eq_nil_of_le (by omega)];rfl
  have hff:fin=true:=hH.out.trans hd
  subst hff
  clear hH hd hcase
  go_wp2
  go_ret
  exact ⟨rfl,hbel⟩

theorem LC (a:Option Addr) (len cap:Nat) (xs:List I3) (w:World) (h:Zm w a len cap xs) :
  Calls Tryz.prog 111 #[.slice a len cap] w fun e w'=>e=.returned (.bool (Ye xs))∧Below w.heap.size w w':=by
 unfold Ye
 by_cases hlen:len≤6
 ·have:=Q7 a len cap xs w h hlen
  simpa [h.1,hlen] using this
 have:=PN a len cap w (Nat.le_trans h.2.1 h.2.2.1) (by omega)
 simpa [h.1,hlen] using this

def Zq (rows:List (List I3)):Bool:=decide (rows.length=3) && rows.all Ye

theorem PH {rows:List (List I3)} {k:Nat} (hk:k<rows.length):(rows.drop k).all Ye=(Ye (rows.getD k []) && (rows.drop (k+1)).all Ye):=by
 rw [List.drop_eq_getElem_cons hk,List.all_cons]
 simp [List.getD,hk]

theorem TN (a:Option Addr) (len cap:Nat) (rows:List (List I3)) (w:World) (h:Z8 w a len cap rows) :
  Calls Tryz.prog 59 #[.agg #[.slice a len cap]] w fun e w'=>e=.returned (.bool (Zq rows))∧Below w.heap.size w w':=by
 obtain ⟨fin,hfin⟩:∃ fin,fin=Zq rows:=⟨_,rfl⟩
 rw [← hfin]
 obtain ⟨hl,hlc,hcm,hcase⟩:=h
 unfold maxLen at hcm
 by_cases h3:len=3
 ·subst h3
  have hfin':Hid (fin=(rows.drop 0).all Ye):=by rw [Hid,hfin,Zq,decide_eq_true hl];rfl
  clear hfin
  rcases hcase with h0 | ⟨b,off,rfl,hblt,hcell⟩
  ·omega
  go_enter Tryz.func59,Tryz.ntmps59
  go_wp2
  go_loopw [12] (fun si wr=>∃ (k:Nat),k≤3∧si=.int .i64 k∧Hid (fin=(rows.drop k).all Ye)∧Below w.heap.size w wr) (fun si _=>3 - (intOf si).toNat)
  case atStart=>exact ⟨0,by omega,rfl,hfin',by go_grown⟩
  case round =>
   obtain ⟨k,hk,rfl,hH,hbel⟩:=hrel
   by_cases hlt:k<3
   ·have hlt2:(k:Int)<3:=by omega
    obtain ⟨a',len',cap',hc,hI⟩:=hcell k hlt
    have hst:=PH (rows:=rows) (k:=k) (by omega)
    generalize rows.getD k []=xs at hI hst
    have hst':Hid ((rows.drop k).all Ye=(Ye xs && (rows.drop (k+1)).all Ye)):=hst
    clear hst hcell
    have hc':wr.cell? ⟨b,off+k,none⟩=some (.slice a' len' cap'):=by rw [hbel.cell (p:=⟨b,_,none⟩) hblt];exact hc
    have hI':=hI.below hbel
    clear hc hI
    go_wp2_with fail
    refine (LC a' len' cap' xs _ (hI'.below (by go_grown))).mono ?_
    rintro e w1 ⟨rfl,hb1⟩
    have hb2:Below w.heap.size w w1:=Zb hbel (Zb (by go_grown) hb1)
    clear hb1 hbel hc' hI'
    cases hp:Ye xs
    ·have hff:fin=false:=by rw [hH.out,hst'.out,hp];rfl
     subst hff
     clear hH hst' hp
     go_wp2
     go_ret
     exact ⟨rfl,hb2⟩
    have hH':Hid (fin=(rows.drop (k+1)).all Ye):=by rw [Hid,hH.out,hst'.out,hp];rfl
    clear hH hst' hp
    go_wp2
    go_roundw
    case rel=>exact ⟨k+1,by omega,by go_num,hH',hb2⟩
    case measure=>simp [intOf];omega
   obtain rfl:k=3:=by omega
   have hd:(rows.drop 3).all Ye=true:=by rw [List.drop_eq_nil_of_le (by omega)];rfl
   have hff:fin=true:=hH.out.trans hd
   subst hff
   clear hH hd hcell
   go_wp2
   go_ret
   exact ⟨rfl,hbel⟩
 have hff:fin=false:=by rw [hfin,Zq,decide_eq_false (by omega)];rfl
 subst hff
 clear hfin
 have h3':(len:Int)≠3:=by omega
 go_enter Tryz.func59,Tryz.ntmps59
 go_wp2
 go_ret
 exact ⟨rfl,by go_grown⟩


theorem Yw (n a b:Int) (w:World):Calls Tryz.prog 117 #[.int .i64 n,.int .i64 a,.int .i64 b] w fun e w'=>e=.returned (.bool (inB n a b))∧w=w':=by
 cases h:inB n a b
 ·exact Jl n a b w (Yl.1 h)
 exact L1 n a b w (ZC.1 h)

theorem JH (a b:Int) (w:World):Calls Tryz.prog 116 #[.agg #[.int .i64 1,.int .i64 a,.int .i64 b]] w fun e w'=>e=.returned (.bool (inB a 0 1 && inB b 0 3))∧Below w.heap.size w w':=by
 have kA:=Yw a 0 1
 have kB:=Yw b 0 3
 generalize inB a 0 1=p at kA
 generalize inB b 0 3=q at kB
 go_enter Tryz.func116,Tryz.ntmps116
 go_wp2_with fail
 refine (kA _).mono ?_
 rintro e w1 ⟨rfl,rfl⟩
 cases p
 ·go_wp2_with fail
  go_ret
  exact ⟨rfl,by go_grown⟩
 go_wp2_with fail
 refine (kB _).mono ?_
 rintro e w1 ⟨rfl,rfl⟩
 go_wp2_with fail
 go_ret
 exact ⟨rfl,by go_grown⟩

theorem JI (a b:Int) (w:World):Calls Tryz.prog 116 #[.agg #[.int .i64 2,.int .i64 a,.int .i64 b]] w fun e w'=>e=.returned (.bool (inB a 0 3 && inB b 0 1))∧Below w.heap.size w w':=by
 have kA:=Yw a 0 3
 have kB:=Yw b 0 1
 generalize inB a 0 3=p at kA
 generalize inB b 0 1=q at kB
 go_enter Tryz.func116,Tryz.ntmps116
 go_wp2_with fail
 refine (kA _).mono ?_
 rintro e w1 ⟨rfl,rfl⟩
 cases p
 ·go_wp2_with fail
  go_ret
  exact ⟨rfl,by go_grown⟩
 go_wp2_with fail
 refine (kB _).mono ?_
 rintro e w1 ⟨rfl,rfl⟩
 go_wp2_with fail
 go_ret
 exact ⟨rfl,by go_grown⟩

theorem JJ (a b:Int) (w:World):Calls Tryz.prog 116 #[.agg #[.int .i64 3,.int .i64 a,.int .i64 b]] w fun e w'=>e=.returned (.bool (inB a 0 1 && inB b 0 9))∧Below w.heap.size w w':=by
 have kA:=Yw a 0 1
 have kB:=Yw b 0 9
 generalize inB a 0 1=p at kA
 generalize inB b 0 9=q at kB
 go_enter Tryz.func116,Tryz.ntmps116
 go_wp2_with fail
 refine (kA _).mono ?_
 rintro e w1 ⟨rfl,rfl⟩
 cases p
 ·go_wp2_with fail
  go_ret
  exact ⟨rfl,by go_grown⟩
 go_wp2_with fail
 refine (kB _).mono ?_
 rintro e w1 ⟨rfl,rfl⟩
 go_wp2_with fail
 go_ret
 exact ⟨rfl,by go_grown⟩

theorem JK (a b:Int) (w:World):Calls Tryz.prog 116 #[.agg #[.int .i64 4,.int .i64 a,.int .i64 b]] w fun e w'=>e=.returned (.bool (inB a 0 1 && inB b 0 9))∧Below w.heap.size w w':=by
 have kA:=Yw a 0 1
 have kB:=Yw b 0 9
 generalize inB a 0 1=p at kA
 generalize inB b 0 9=q at kB
 go_enter Tryz.func116,Tryz.ntmps116
 go_wp2_with fail
 refine (kA _).mono ?_
 rintro e w1 ⟨rfl,rfl⟩
 cases p
 ·go_wp2_with fail
  go_ret
  exact ⟨rfl,by go_grown⟩
 go_wp2_with fail
 refine (kB _).mono ?_
 rintro e w1 ⟨rfl,rfl⟩
 go_wp2_with fail
 go_ret
 exact ⟨rfl,by go_grown⟩

theorem JL (a b:Int) (w:World):Calls Tryz.prog 116 #[.agg #[.int .i64 5,.int .i64 a,.int .i64 b]] w fun e w'=>e=.returned (.bool (inB a 0 1 && inB b 0 0))∧Below w.heap.size w w':=by
 have kA:=Yw a 0 1
 generalize inB a 0 1=p at kA
 have kB:(b == 0)=inB b 0 0:=by
  cases h:inB b 0 0
  ·rw [Yl] at h
   simp;omega
  rw [ZC] at h
  simp;omega
 rw [← kB]
 clear kB
 go_enter Tryz.func116,Tryz.ntmps116
 go_wp2_with fail
 refine (kA _).mono ?_
 rintro e w1 ⟨rfl,rfl⟩
 cases p
 ·go_wp2_with fail
  go_ret
  exact ⟨rfl,by go_grown⟩
 go_wp2_with fail
 go_ret
 exact ⟨by simp,by go_grown⟩

theorem JM (a b:Int) (w:World):Calls Tryz.prog 116 #[.agg #[.int .i64 6,.int .i64 a,.int .i64 b]] w fun e w'=>e=.returned (.bool (inB a 0 1 && inB b 0 0))∧Below w.heap.size w w':=by
 have kA:=Yw a 0 1
 generalize inB a 0 1=p at kA
 have kB:(b == 0)=inB b 0 0:=by
  cases h:inB b 0 0
  ·rw [Yl] at h
   simp;omega
  rw [ZC] at h
  simp;omega
 rw [← kB]
 clear kB
 go_enter Tryz.func116,Tryz.ntmps116
 go_wp2_with fail
 refine (kA _).mono ?_
 rintro e w1 ⟨rfl,rfl⟩
 cases p
 ·go_wp2_with fail
  go_ret
  exact ⟨rfl,by go_grown⟩
 go_wp2_with fail
 go_ret
 exact ⟨by simp,by go_grown⟩

theorem JN (a b:Int) (w:World):Calls Tryz.prog 116 #[.agg #[.int .i64 7,.int .i64 a,.int .i64 b]] w fun e w'=>e=.returned (.bool (inB a 0 1 && inB b 1 6))∧Below w.heap.size w w':=by
 have kA:=Yw a 0 1
 have kB:=Yw b 1 6
 generalize inB a 0 1=p at kA
 generalize inB b 1 6=q at kB
 go_enter Tryz.func116,Tryz.ntmps116
 go_wp2_with fail
 refine (kA _).mono ?_
 rintro e w1 ⟨rfl,rfl⟩
 cases p
 ·go_wp2_with fail
  go_ret
  exact ⟨rfl,by go_grown⟩
 go_wp2_with fail
 refine (kB _).mono ?_
 rintro e w1 ⟨rfl,rfl⟩
 go_wp2_with fail
 go_ret
 exact ⟨rfl,by go_grown⟩

theorem JO (a b:Int) (w:World):Calls Tryz.prog 116 #[.agg #[.int .i64 8,.int .i64 a,.int .i64 b]] w fun e w'=>e=.returned (.bool (inB a 0 1 && inB b 0 9))∧Below w.heap.size w w':=by
 have kA:=Yw a 0 1
 have kB:=Yw b 0 9
 generalize inB a 0 1=p at kA
 generalize inB b 0 9=q at kB
 go_enter Tryz.func116,Tryz.ntmps116
 go_wp2_with fail
 refine (kA _).mono ?_
 rintro e w1 ⟨rfl,rfl⟩
 cases p
 ·go_wp2_with fail
  go_ret
  exact ⟨rfl,by go_grown⟩
 go_wp2_with fail
 refine (kB _).mono ?_
 rintro e w1 ⟨rfl,rfl⟩
 go_wp2_with fail
 go_ret
 exact ⟨rfl,by go_grown⟩

theorem JG (c a b:Int) (w:World) (h:c≠1∧c≠2∧c≠3∧c≠4∧c≠5∧c≠6∧c≠7∧c≠8):Calls Tryz.prog 116 #[.agg #[.int .i64 c,.int .i64 a,.int .i64 b]] w fun e w'=>e=.returned (.bool false)∧Below w.heap.size w w':=by
 obtain ⟨h1,h2,h3,h4,h5,h6,h7,h8⟩:=h
 go_enter Tryz.func116,Tryz.ntmps116
 go_wp2
 go_ret
 exact ⟨rfl,by go_grown⟩

theorem KF (x:I3) (w:World):Calls Tryz.prog 116 #[x.val] w fun e w'=>e=.returned (.bool (okI x))∧Below w.heap.size w w':=by
 obtain ⟨c,a,b⟩:=x
 unfold I3.val okI
 rcases VX (c,a,b) with h | h | h | h | h | h | h | h | h

 ·obtain rfl:c=1:=h
  simpa using JH a b w
 ·obtain rfl:c=2:=h
  simpa using JI a b w
 ·obtain rfl:c=3:=h
  simpa using JJ a b w
 ·obtain rfl:c=4:=h
  simpa using JK a b w
 ·obtain rfl:c=5:=h
  simpa using JL a b w
 ·obtain rfl:c=6:=h
  simpa using JM a b w
 ·obtain rfl:c=7:=h
  simpa using JN a b w
 ·obtain rfl:c=8:=h
  simpa using JO a b w
 have h':=h
 obtain ⟨h1,h2,h3,h4,h5,h6,h7,h8⟩:=h
 simp only [] at h1 h2 h3 h4 h5 h6 h7 h8
 rw [if_neg h1,if_neg h2,if_neg (by simp;omega),if_neg (by simp;omega),if_neg h7]
 exact JG c a b w h'
end Go.Proofs.YtnffeclgboomoaaGreatDoor
