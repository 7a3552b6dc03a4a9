/-
  Joined: Leads, CodeI, InstrS, CodeS.
-/
import Derived.Test.YtmhlokahmblboaaGreatDoorQ04
import Derived.Test.YtmhlokahmblboaaGreatDoorQ06

namespace Go.Proofs.YtmhlokahmblboaaGreatDoor
set_option maxRecDepth 100000
set_option maxHeartbeats 16000000
open Go.RowKit

def VI (x:I3) (k n:Int):Bool:=if x.1=7 then inB x.2.2 (k+1) n else true

theorem Jy (v:Value) (w:World):(Instr.typeAssert (.iface 315 v) 303 306 true).run Tryz.prog w=.ok (.tuple #[.int .i64 0,.bool false]) w:=by kernel_rfl
theorem Mw (v:Value) (w:World):(Instr.typeAssert (.iface 314 v) 303 306 true).run Tryz.prog w=.ok (.tuple #[.int .i64 0,.bool false]) w:=by kernel_rfl
theorem Qd (v:Value) (w:World):(Instr.typeAssert (.iface 316 v) 303 306 true).run Tryz.prog w=.ok (.tuple #[.int .i64 0,.bool false]) w:=by kernel_rfl
theorem Fc (v:Value) (w:World):(Instr.typeAssert (.iface 318 v) 303 306 true).run Tryz.prog w=.ok (.tuple #[.int .i64 0,.bool false]) w:=by kernel_rfl
theorem Jz (v:Value) (w:World):(Instr.typeAssert (.iface 306 v) 303 306 true).run Tryz.prog w=.ok (.tuple #[v,.bool true]) w:=by kernel_rfl
theorem Fv (w:World):(Instr.typeAssert .nilIface 303 306 true).run Tryz.prog w=.ok (.tuple #[.int .i64 0,.bool false]) w:=by kernel_rfl

theorem KN (a b k n:Int) (w:World):Calls Tryz.prog 212 #[.agg #[.int .i64 1,.int .i64 a,.int .i64 b],.int .i64 k,.int .i64 n] w fun e w'=>e=.returned (.bool true)∧Below w.heap.size w w':=by
 have ta:=Jy (.int .i64 b)
 go_enter Tryz.func212,Tryz.ntmps212
 go_wp2_with fail
 refine (Tj a b _).mono ?_
 rintro e w1 ⟨rfl,hb1⟩
 have hb:Below w.heap.size w w1:=Zb (by go_grown) hb1
 clear hb1
 go_wp2
 go_ret
 exact ⟨rfl,hb⟩

theorem KO (a b k n:Int) (w:World):Calls Tryz.prog 212 #[.agg #[.int .i64 2,.int .i64 a,.int .i64 b],.int .i64 k,.int .i64 n] w fun e w'=>e=.returned (.bool true)∧Below w.heap.size w w':=by
 have ta:=Mw (.int .i64 b)
 go_enter Tryz.func212,Tryz.ntmps212
 go_wp2_with fail
 refine (Tl a b _).mono ?_
 rintro e w1 ⟨rfl,hb1⟩
 have hb:Below w.heap.size w w1:=Zb (by go_grown) hb1
 clear hb1
 go_wp2
 go_ret
 exact ⟨rfl,hb⟩

theorem KP (a b k n:Int) (w:World):Calls Tryz.prog 212 #[.agg #[.int .i64 3,.int .i64 a,.int .i64 b],.int .i64 k,.int .i64 n] w fun e w'=>e=.returned (.bool true)∧Below w.heap.size w w':=by
 have ta:=Qd (.int .i64 b)
 go_enter Tryz.func212,Tryz.ntmps212
 go_wp2_with fail
 refine (Tm a b _).mono ?_
 rintro e w1 ⟨rfl,hb1⟩
 have hb:Below w.heap.size w w1:=Zb (by go_grown) hb1
 clear hb1
 go_wp2
 go_ret
 exact ⟨rfl,hb⟩

theorem KQ (a b k n:Int) (w:World):Calls Tryz.prog 212 #[.agg #[.int .i64 4,.int .i64 a,.int .i64 b],.int .i64 k,.int .i64 n] w fun e w'=>e=.returned (.bool true)∧Below w.heap.size w w':=by
 have ta:=Qd (.int .i64 b)
 go_enter Tryz.func212,Tryz.ntmps212
 go_wp2_with fail
 refine (Tn a b _).mono ?_
 rintro e w1 ⟨rfl,hb1⟩
 have hb:Below w.heap.size w w1:=Zb (by go_grown) hb1
 clear hb1
 go_wp2
 go_ret
 exact ⟨rfl,hb⟩

theorem KR (a b k n:Int) (w:World):Calls Tryz.prog 212 #[.agg #[.int .i64 5,.int .i64 a,.int .i64 b],.int .i64 k,.int .i64 n] w fun e w'=>e=.returned (.bool true)∧Below w.heap.size w w':=by
 have ta:=Fc (.int .i64 b)
 go_enter Tryz.func212,Tryz.ntmps212
 go_wp2_with fail
 refine (To a b _).mono ?_
 rintro e w1 ⟨rfl,hb1⟩
 have hb:Below w.heap.size w w1:=Zb (by go_grown) hb1
 clear hb1
 go_wp2
 go_ret
 exact ⟨rfl,hb⟩

theorem KS (a b k n:Int) (w:World):Calls Tryz.prog 212 #[.agg #[.int .i64 6,.int .i64 a,.int .i64 b],.int .i64 k,.int .i64 n] w fun e w'=>e=.returned (.bool true)∧Below w.heap.size w w':=by
 have ta:=Fc (.int .i64 b)
 go_enter Tryz.func212,Tryz.ntmps212
 go_wp2_with fail
 refine (Tp a b _).mono ?_
 rintro e w1 ⟨rfl,hb1⟩
 have hb:Below w.heap.size w w1:=Zb (by go_grown) hb1
 clear hb1
 go_wp2
 go_ret
 exact ⟨rfl,hb⟩

theorem KU (a b k n:Int) (w:World):Calls Tryz.prog 212 #[.agg #[.int .i64 8,.int .i64 a,.int .i64 b],.int .i64 k,.int .i64 n] w fun e w'=>e=.returned (.bool true)∧Below w.heap.size w w':=by
 have ta:=Qd (.int .i64 b)
 go_enter Tryz.func212,Tryz.ntmps212
 go_wp2_with fail
 refine (Tq a b _).mono ?_
 rintro e w1 ⟨rfl,hb1⟩
 have hb:Below w.heap.size w w1:=Zb (by go_grown) hb1
 clear hb1
 go_wp2
 go_ret
 exact ⟨rfl,hb⟩

theorem KM (c a b k n:Int) (w:World) (h:c≠1∧c≠2∧c≠3∧c≠4∧c≠5∧c≠6∧c≠7∧c≠8):Calls Tryz.prog 212 #[.agg #[.int .i64 c,.int .i64 a,.int .i64 b],.int .i64 k,.int .i64 n] w fun e w'=>e=.returned (.bool true)∧Below w.heap.size w w':=by
 have ta:=Fv
 go_enter Tryz.func212,Tryz.ntmps212
 go_wp2_with fail
 refine (Ti c a b _ h).mono ?_
 rintro e w1 ⟨rfl,hb1⟩
 have hb:Below w.heap.size w w1:=Zb (by go_grown) hb1
 clear hb1 h
 go_wp2
 go_ret
 exact ⟨rfl,hb⟩

theorem KT (a b k n:Int) (w:World):Calls Tryz.prog 212 #[.agg #[.int .i64 7,.int .i64 a,.int .i64 b],.int .i64 k,.int .i64 n] w fun e w'=>e=.returned (.bool (inB b (k+1) n))∧Below w.heap.size w w':=by
 obtain ⟨p,hp⟩:∃ p,p=inB b (k+1) n:=⟨_,rfl⟩
 rw [← hp]
 have ta:=Jz (.int .i64 b)
 by_cases h1:k<b
 ·have hp':p=decide (b≤n):=by
   subst hp
   by_cases h2:b≤n
   ·rw [decide_eq_true h2,Zv];omega
   rw [decide_eq_false h2,Z8];omega
  clear hp
  subst hp'
  go_enter Tryz.func212,Tryz.ntmps212
  go_wp2_with fail
  refine (VC a b _).mono ?_
  rintro e w1 ⟨rfl,hb1⟩
  have hb:Below w.heap.size w w1:=Zb (by go_grown) hb1
  clear hb1
  go_wp2
  go_ret
  exact ⟨rfl,hb⟩
 have hp':p=false:=by
  subst hp
  rw [Z8];omega
 clear hp
 subst hp'
 go_enter Tryz.func212,Tryz.ntmps212
 go_wp2_with fail
 refine (VC a b _).mono ?_
 rintro e w1 ⟨rfl,hb1⟩
 have hb:Below w.heap.size w w1:=Zb (by go_grown) hb1
 clear hb1
 go_wp2
 go_ret
 exact ⟨rfl,hb⟩

theorem MW (x:I3) (k n:Int) (w:World):Calls Tryz.prog 212 #[x.val,.int .i64 k,.int .i64 n] w fun e w'=>e=.returned (.bool (VI x k n))∧Below w.heap.size w w':=by
 obtain ⟨c,a,b⟩:=x
 unfold I3.val VI
 rcases VZ (c,a,b) with h | h | h | h | h | h | h | h | h

 ·obtain rfl:c=1:=h
  simpa using KN a b k n w
 ·obtain rfl:c=2:=h
  simpa using KO a b k n w
 ·obtain rfl:c=3:=h
  simpa using KP a b k n w
 ·obtain rfl:c=4:=h
  simpa using KQ a b k n w
 ·obtain rfl:c=5:=h
  simpa using KR a b k n w
 ·obtain rfl:c=6:=h
  simpa using KS a b k n w
 ·obtain rfl:c=7:=h
  simpa using KT a b k n w
 ·obtain rfl:c=8:=h
  simpa using KU a b k n w
 have h':=h
 obtain ⟨h1,h2,h3,h4,h5,h6,h7,h8⟩:=h
 simp only [] at h7
 rw [if_neg h7]
 exact KM c a b k n w h'


def Yp (n:Nat):Nat→List I3→Bool
 | _,[]=>true
 | i,x::xs=>(okI x && VI x i n) && Yp n (i+1) xs

def Z7 (xs:List I3):Bool:=decide (xs.length≤6) && Yp xs.length 0 xs

theorem Sv {n k:Nat} {xs:List I3} (hk:k<xs.length):Yp n k (xs.drop k)=((okI (xs.getD k (0,0,0)) && VI (xs.getD k (0,0,0)) k n) && Yp n (k+1) (xs.drop (k+1))):=by
 rw [List.drop_eq_getElem_cons hk]
 show ((okI (xs[k]) && VI (xs[k]) k n) && Yp n (k+1) (xs.drop (k+1)))=_
 simp [List.getD,hk]

theorem Nn (a:Option Addr) (len cap:Nat) (w:World) (hl:len≤maxLen) (hlen:6<len) :
  Calls Tryz.prog 174 #[.slice a len cap] w fun e w'=>e=.returned (.bool false)∧Below w.heap.size w w':=by
 unfold maxLen at hl
 go_enter Tryz.func174,Tryz.ntmps174
 go_wp2
 go_ret
 exact ⟨rfl,by go_grown⟩

theorem Py (a:Option Addr) (len cap:Nat) (xs:List I3) (w:World) (h:Zj w a len cap xs) (hlen:len≤6) :
  Calls Tryz.prog 174 #[.slice a len cap] w fun e w'=>e=.returned (.bool (Yp len 0 xs))∧Below w.heap.size w w':=by
 obtain ⟨fin,hfin⟩:∃ fin,fin=Yp len 0 xs:=⟨_,rfl⟩
 rw [← hfin]
 have hfin':Hid (fin=Yp len 0 (xs.drop 0)):=hfin
 clear hfin
 obtain ⟨hl,hlc,hcm,_,hcase⟩:=h
 unfold maxLen at hcm
 go_enter Tryz.func174,Tryz.ntmps174
 go_wp2
 go_loopw [10] (fun si wr=>∃ (k:Nat),k≤len∧si=.int .i64 k∧Hid (fin=Yp len k (xs.drop k))∧Below w.heap.size w wr) (fun si _=>len - (intOf si).toNat)
 case atStart=>exact ⟨0,by omega,rfl,hfin',by go_grown⟩
 case round =>
  obtain ⟨k,hk,rfl,hH,hbel⟩:=hrel
  by_cases hlt:k<len
  ·rcases hcase with h0 | ⟨b,off,rfl,hblt,hcell⟩
   ·omega
   have hlt2:(k:Int)<(len:Int):=by omega
   obtain ⟨c0,c1,c2⟩:=hcell k hlt
   have hst:=Sv (n:=len) (xs:=xs) (k:=k) (by omega)
   generalize xs.getD k (0,0,0)=x at c0 c1 c2 hst
   have hst':Hid (Yp len k (xs.drop k)=((okI x && VI x k len) && Yp len (k+1) (xs.drop (k+1)))):=hst
   clear hst hcell
   have d0:wr.cell? ⟨b,off+k*3,none⟩=some (.int .i64 x.1):=by rw [hbel.cell (p:=⟨b,_,none⟩) hblt];exact c0
   have d1:wr.cell? ⟨b,off+k*3+1,none⟩=some (.int .i64 x.2.1):=by rw [hbel.cell (p:=⟨b,_,none⟩) hblt];exact c1
   have d2:wr.cell? ⟨b,off+k*3+2,none⟩=some (.int .i64 x.2.2):=by rw [hbel.cell (p:=⟨b,_,none⟩) hblt];exact c2
   clear c0 c1 c2
   go_wp2_with fail
   refine (MR x _).mono ?_
   rintro e w1 ⟨rfl,hb1⟩
   have e0:w1.cell? ⟨wr.heap.size,0,none⟩=some (.int .i64 x.1):=by rw [hb1.cell (by simp)];simp [go_sem]
   have e1:w1.cell? ⟨wr.heap.size,1,none⟩=some (.int .i64 x.2.1):=by rw [hb1.cell (by simp)];simp [go_sem]
   have e2:w1.cell? ⟨wr.heap.size,2,none⟩=some (.int .i64 x.2.2):=by rw [hb1.cell (by simp)];simp [go_sem]
   have hb2:Below w.heap.size w w1:=Zb hbel (Zb (by go_grown) hb1)
   clear hb1 hbel d0 d1 d2
   cases hp:okI x
   ·have hff:fin=false:=by rw [hH.out,hst'.out,hp];rfl
    subst hff
    clear hH hst' hp
    go_wp2
    go_ret
    exact ⟨rfl,hb2⟩
   go_wp2_with fail
   refine (MW x _ _ _).mono ?_
   rintro e w2 ⟨rfl,hb3⟩
   have hb4:=Zb hb2 hb3
   clear hb2 hb3 e0 e1 e2
   cases hq:VI x k len
   ·have hff:fin=false:=by rw [hH.out,hst'.out,hp,hq];rfl
    subst hff
    clear hH hst' hp hq
    go_wp2
    go_ret
    exact ⟨rfl,hb4⟩
   have hH':Hid (fin=Yp len (k+1) (xs.drop (k+1))):=by rw [Hid,hH.out,hst'.out,hp,hq];rfl
   clear hH hst' hp hq
   go_wp2
   go_roundw
   case rel=>exact ⟨k+1,by omega,by go_num,hH',hb4⟩
   case measure=>simp [intOf];omega
  obtain rfl:k=len:=by omega
  have hd:Yp k k (xs.drop k)=true:=by rw [List.drop_eq_nil_of_le (by omega)];rfl
  have hff:fin=true:=hH.out.trans hd
  subst hff
  clear hH hd hcase
  go_wp2
  go_ret
  exact ⟨rfl,hbel⟩

theorem Kk (a:Option Addr) (len cap:Nat) (xs:List I3) (w:World) (h:Zj w a len cap xs) :
  Calls Tryz.prog 174 #[.slice a len cap] w fun e w'=>e=.returned (.bool (Z7 xs))∧Below w.heap.size w w':=by
 unfold Z7
 by_cases hlen:len≤6
 ·have:=Py a len cap xs w h hlen
  simpa [h.1,hlen] using this
 have:=Nn a len cap w (Nat.le_trans h.2.1 h.2.2.1) (by omega)
 simpa [h.1,hlen] using this

def Zq (rows:List (List I3)):Bool:=decide (rows.length=3) && rows.all Z7

theorem Nj {rows:List (List I3)} {k:Nat} (hk:k<rows.length):(rows.drop k).all Z7=(Z7 (rows.getD k []) && (rows.drop (k+1)).all Z7):=by
 rw [List.drop_eq_getElem_cons hk,List.all_cons]
 simp [List.getD,hk]

theorem TP (a:Option Addr) (len cap:Nat) (rows:List (List I3)) (w:World) (h:Z1 w a len cap rows) :
  Calls Tryz.prog 124 #[.agg #[.slice a len cap]] w fun e w'=>e=.returned (.bool (Zq rows))∧Below w.heap.size w w':=by
 obtain ⟨fin,hfin⟩:∃ fin,fin=Zq rows:=⟨_,rfl⟩
 rw [← hfin]
 obtain ⟨hl,hlc,hcm,hcase⟩:=h
 unfold maxLen at hcm
 by_cases h3:len=3
 ·subst h3
  have hfin':Hid (fin=(rows.drop 0).all Z7):=by rw [Hid,hfin,Zq,decide_eq_true hl];rfl
  clear hfin
  rcases hcase with h0 | ⟨b,off,rfl,hblt,hcell⟩
  ·omega
  go_enter Tryz.func124,Tryz.ntmps124
  go_wp2
  go_loopw [12] (fun si wr=>∃ (k:Nat),k≤3∧si=.int .i64 k∧Hid (fin=(rows.drop k).all Z7)∧Below w.heap.size w wr) (fun si _=>3 - (intOf si).toNat)
  case atStart=>exact ⟨0,by omega,rfl,hfin',by go_grown⟩
  case round =>
   obtain ⟨k,hk,rfl,hH,hbel⟩:=hrel
   by_cases hlt:k<3
   ·have hlt2:(k:Int)<3:=by omega
    obtain ⟨a',len',cap',hc,hI⟩:=hcell k hlt
    have hst:=Nj (rows:=rows) (k:=k) (by omega)
    generalize rows.getD k []=xs at hI hst
    have hst':Hid ((rows.drop k).all Z7=(Z7 xs && (rows.drop (k+1)).all Z7)):=hst
    clear hst hcell
    have hc':wr.cell? ⟨b,off+k,none⟩=some (.slice a' len' cap'):=by rw [hbel.cell (p:=⟨b,_,none⟩) hblt];exact hc
    have hI':=hI.below hbel
    clear hc hI
    go_wp2_with fail
    refine (Kk a' len' cap' xs _ (hI'.below (by go_grown))).mono ?_
    rintro e w1 ⟨rfl,hb1⟩
    have hb2:Below w.heap.size w w1:=Zb hbel (Zb (by go_grown) hb1)
    clear hb1 hbel hc' hI'
    cases hp:Z7 xs
    ·have hff:fin=false:=by rw [hH.out,hst'.out,hp];rfl
     subst hff
     clear hH hst' hp
     go_wp2
     go_ret
     exact ⟨rfl,hb2⟩
    have hH':Hid (fin=(rows.drop (k+1)).all Z7):=by rw [Hid,hH.out,hst'.out,hp];rfl
    clear hH hst' hp
    go_wp2
    go_roundw
    case rel=>exact ⟨k+1,by omega,by go_num,hH',hb2⟩
    case measure=>simp [intOf];omega
   obtain rfl:k=3:=by omega
   have hd:(rows.drop 3).all Z7=true:=by rw [List.drop_eq_nil_of_le (by omega)];rfl
   have hff:fin=true:=hH.out.trans hd
   subst hff
   clear hH hd hcell
   go_wp2
   go_ret
   exact ⟨rfl,hbel⟩
 have hff:fin=false:=by rw [hfin,Zq,decide_eq_false (by omega)];rfl
 subst hff
 clear hfin
 have h3':(len:Int)≠3:=by omega
 go_enter Tryz.func124,Tryz.ntmps124
 go_wp2
 go_ret
 exact ⟨rfl,by go_grown⟩


theorem Yx (n a b:Int) (w:World):Calls Tryz.prog 98 #[.int .i64 n,.int .i64 a,.int .i64 b] w fun e w'=>e=.returned (.bool (inB n a b))∧w=w':=by
 cases h:inB n a b
 ·exact Ta n a b w (Z8.1 h)
 exact Ui n a b w (Zv.1 h)

theorem HH (a b:Int) (w:World):Calls Tryz.prog 97 #[.agg #[.int .i64 1,.int .i64 a,.int .i64 b]] w fun e w'=>e=.returned (.bool (inB a 0 1 && inB b 0 3))∧Below w.heap.size w w':=by
 have kA:=Yx a 0 1
 have kB:=Yx b 0 3
 generalize inB a 0 1=p at kA
 generalize inB b 0 3=q at kB
 go_enter Tryz.func97,Tryz.ntmps97
 go_wp2_with fail
 refine (kA _).mono ?_
 rintro e w1 ⟨rfl,rfl⟩
 cases p
 ·go_wp2_with fail
  go_ret
  exact ⟨rfl,by go_grown⟩
 go_wp2_with fail
 refine (kB _).mono ?_
 rintro e w1 ⟨rfl,rfl⟩
 go_wp2_with fail
 go_ret
 exact ⟨rfl,by go_grown⟩

theorem HJ (a b:Int) (w:World):Calls Tryz.prog 97 #[.agg #[.int .i64 2,.int .i64 a,.int .i64 b]] w fun e w'=>e=.returned (.bool (inB a 0 3 && inB b 0 1))∧Below w.heap.size w w':=by
 have kA:=Yx a 0 3
 have kB:=Yx b 0 1
 generalize inB a 0 3=p at kA
 generalize inB b 0 1=q at kB
 go_enter Tryz.func97,Tryz.ntmps97
 go_wp2_with fail
 refine (kA _).mono ?_
 rintro e w1 ⟨rfl,rfl⟩
 cases p
 ·go_wp2_with fail
  go_ret
  exact ⟨rfl,by go_grown⟩
 go_wp2_with fail
 refine (kB _).mono ?_
 rintro e w1 ⟨rfl,rfl⟩
 go_wp2_with fail
 go_ret
 exact ⟨rfl,by go_grown⟩

theorem HU (a b:Int) (w:World):Calls Tryz.prog 97 #[.agg #[.int .i64 3,.int .i64 a,.int .i64 b]] w fun e w'=>e=.returned (.bool (inB a 0 1 && inB b 0 9))∧Below w.heap.size w w':=by
 have kA:=Yx a 0 1
 have kB:=Yx b 0 9
 generalize inB a 0 1=p at kA
 generalize inB b 0 9=q at kB
 go_enter Tryz.func97,Tryz.ntmps97
 go_wp2_with fail
 refine (kA _).mono ?_
 rintro e w1 ⟨rfl,rfl⟩
 cases p
 ·go_wp2_with fail
  go_ret
  exact ⟨rfl,by go_grown⟩
 go_wp2_with fail
 refine (kB _).mono ?_
 rintro e w1 ⟨rfl,rfl⟩
 go_wp2_with fail
 go_ret
 exact ⟨rfl,by go_grown⟩

theorem H0 (a b:Int) (w:World):Calls Tryz.prog 97 #[.agg #[.int .i64 4,.int .i64 a,.int .i64 b]] w fun e w'=>e=.returned (.bool (inB a 0 1 && inB b 0 9))∧Below w.heap.size w w':=by
 have kA:=Yx a 0 1
 have kB:=Yx b 0 9
 generalize inB a 0 1=p at kA
 generalize inB b 0 9=q at kB
 go_enter Tryz.func97,Tryz.ntmps97
 go_wp2_with fail
 refine (kA _).mono ?_
 rintro e w1 ⟨rfl,rfl⟩
 cases p
 ·go_wp2_with fail
  go_ret
  exact ⟨rfl,by go_grown⟩
 go_wp2_with fail
 refine (kB _).mono ?_
 rintro e w1 ⟨rfl,rfl⟩
 go_wp2_with fail
 go_ret
 exact ⟨rfl,by go_grown⟩

theorem H3 (a b:Int) (w:World):Calls Tryz.prog 97 #[.agg #[.int .i64 5,.int .i64 a,.int .i64 b]] w fun e w'=>e=.returned (.bool (inB a 0 1 && inB b 0 0))∧Below w.heap.size w w':=by
 have kA:=Yx a 0 1
 generalize inB a 0 1=p at kA
 have kB:(b == 0)=inB b 0 0:=by
  cases h:inB b 0 0
  ·rw [Z8] at h
   simp;omega
  rw [Zv] at h
  simp;omega
 rw [← kB]
 clear kB
 go_enter Tryz.func97,Tryz.ntmps97
 go_wp2_with fail
 refine (kA _).mono ?_
 rintro e w1 ⟨rfl,rfl⟩
 cases p
 ·go_wp2_with fail
  go_ret
  exact ⟨rfl,by go_grown⟩
 go_wp2_with fail
 go_ret
 exact ⟨by simp,by go_grown⟩

theorem H4 (a b:Int) (w:World):Calls Tryz.prog 97 #[.agg #[.int .i64 6,.int .i64 a,.int .i64 b]] w fun e w'=>e=.returned (.bool (inB a 0 1 && inB b 0 0))∧Below w.heap.size w w':=by
 have kA:=Yx a 0 1
 generalize inB a 0 1=p at kA
 have kB:(b == 0)=inB b 0 0:=by
  cases h:inB b 0 0
  ·rw [Z8] at h
   simp;omega
  rw [Zv] at h
  simp;omega
 rw [← kB]
 clear kB
 go_enter Tryz.func97,Tryz.ntmps97
 go_wp2_with fail
 refine (kA _).mono ?_
 rintro e w1 ⟨rfl,rfl⟩
 cases p
 ·go_wp2_with fail
  go_ret
  exact ⟨rfl,by go_grown⟩
 go_wp2_with fail
 go_ret
 exact ⟨by simp,by go_grown⟩

theorem H5 (a b:Int) (w:World):Calls Tryz.prog 97 #[.agg #[.int .i64 7,.int .i64 a,.int .i64 b]] w fun e w'=>e=.returned (.bool (inB a 0 1 && inB b 1 6))∧Below w.heap.size w w':=by
 have kA:=Yx a 0 1
 have kB:=Yx b 1 6
 generalize inB a 0 1=p at kA
 generalize inB b 1 6=q at kB
 go_enter Tryz.func97,Tryz.ntmps97
 go_wp2_with fail
 refine (kA _).mono ?_
 rintro e w1 ⟨rfl,rfl⟩
 cases p
 ·go_wp2_with fail
  go_ret
  exact ⟨rfl,by go_grown⟩
 go_wp2_with fail
 refine (kB _).mono ?_
 rintro e w1 ⟨rfl,rfl⟩
 go_wp2_with fail
 go_ret
 exact ⟨rfl,by go_grown⟩

theorem H6 (a b:Int) (w:World):Calls Tryz.prog 97 #[.agg #[.int .i64 8,.int .i64 a,.int .i64 b]] w fun e w'=>e=.returned (.bool (inB a 0 1 && inB b 0 9))∧Below w.heap.size w w':=by
 have kA:=Yx a 0 1
 have kB:=Yx b 0 9
 generalize inB a 0 1=p at kA
 generalize inB b 0 9=q at kB
 go_enter Tryz.func97,Tryz.ntmps97
 go_wp2_with fail
 refine (kA _).mono ?_
 rintro e w1 ⟨rfl,rfl⟩
 cases p
 ·go_wp2_with fail
  go_ret
  exact ⟨rfl,by go_grown⟩
 go_wp2_with fail
 refine (kB _).mono ?_
 rintro e w1 ⟨rfl,rfl⟩
 go_wp2_with fail
 go_ret
 exact ⟨rfl,by go_grown⟩

theorem HA (c a b:Int) (w:World) (h:c≠1∧c≠2∧c≠3∧c≠4∧c≠5∧c≠6∧c≠7∧c≠8):Calls Tryz.prog 97 #[.agg #[.int .i64 c,.int .i64 a,.int .i64 b]] w fun e w'=>e=.returned (.bool false)∧Below w.heap.size w w':=by
 obtain ⟨h1,h2,h3,h4,h5,h6,h7,h8⟩:=h
 go_enter Tryz.func97,Tryz.ntmps97
 go_wp2
 go_ret
 exact ⟨rfl,by go_grown⟩

theorem Jn (x:I3) (w:World):Calls Tryz.prog 97 #[x.val] w fun e w'=>e=.returned (.bool (okI x))∧Below w.heap.size w w':=by
 obtain ⟨c,a,b⟩:=x
 unfold I3.val okI
 rcases VZ (c,a,b) with h | h | h | h | h | h | h | h | h

 ·obtain rfl:c=1:=h
  simpa using HH a b w
 ·obtain rfl:c=2:=h
  simpa using HJ a b w
 ·obtain rfl:c=3:=h
  simpa using HU a b w
 ·obtain rfl:c=4:=h
  simpa using H0 a b w
 ·obtain rfl:c=5:=h
  simpa using H3 a b w
 ·obtain rfl:c=6:=h
  simpa using H4 a b w
 ·obtain rfl:c=7:=h
  simpa using H5 a b w
 ·obtain rfl:c=8:=h
  simpa using H6 a b w
 have h':=h
 obtain ⟨h1,h2,h3,h4,h5,h6,h7,h8⟩:=h
 simp only [] at h1 h2 h3 h4 h5 h6 h7 h8
 rw [if_neg h1,if_neg h2,if_neg (by simp;omega),if_neg (by simp;omega),if_neg h7]
 exact HA c a b w h'


theorem T3 (a:Option Addr) (len cap:Nat) (rows:List (List I3)) (w:World) (h:Z1 w a len cap rows) :
  Calls Tryz.prog 44 #[.agg #[.slice a len cap]] w fun e w'=>e=.returned (.bool (Zq rows))∧Below w.heap.size w w':=by
 obtain ⟨fin,hfin⟩:∃ fin,fin=Zq rows:=⟨_,rfl⟩
 rw [← hfin]
 obtain ⟨hl,hlc,hcm,hcase⟩:=h
 unfold maxLen at hcm
 by_cases h3:len=3
 ·subst h3
  have hfin':Hid (fin=(rows.drop 0).all Z7):=by rw [Hid,hfin,Zq,decide_eq_true hl];rfl
  clear hfin
  rcases hcase with h0 | ⟨b,off,rfl,hblt,hcell⟩
  ·omega
  go_enter Tryz.func44,Tryz.ntmps44
  go_wp2
  go_loopw [3] (fun si wr=>∃ (k:Nat),k≤3∧si=.int .i64 k∧Hid (fin=(rows.drop k).all Z7)∧wr.cell? ⟨w.heap.size,0,none⟩=some (.slice (some ⟨b,off,none⟩) 3 cap)∧Below w.heap.size w wr) (fun si _=>3 - (intOf si).toNat)
  case atStart=>exact ⟨0,by omega,rfl,hfin',by simp [go_sem],by go_grown⟩
  case round =>
   obtain ⟨k,hk,rfl,hH,hP,hbel⟩:=hrel
   by_cases hlt:k<3
   ·have hlt2:(k:Int)<3:=by omega
    obtain ⟨a',len',cap',hc,hI⟩:=hcell k hlt
    have hst:=Nj (rows:=rows) (k:=k) (by omega)
    generalize rows.getD k []=xs at hI hst
    have hst':Hid ((rows.drop k).all Z7=(Z7 xs && (rows.drop (k+1)).all Z7)):=hst
    clear hst hcell
    have hc':wr.cell? ⟨b,off+k,none⟩=some (.slice a' len' cap'):=by rw [hbel.cell (p:=⟨b,_,none⟩) hblt];exact hc
    obtain ⟨hl',hlc',hcm',_,hcase'⟩:=hI
    unfold maxLen at hcm'
    by_cases h6:len'≤6
    ·obtain ⟨p,hp⟩:∃ p,p=Z7 xs:=⟨_,rfl⟩
     rw [← hp] at hst'
     have hp':Hid (p=Yp len' 0 (xs.drop 0)):=by rw [Hid,hp,Z7,hl',decide_eq_true h6];rfl
     clear hp
     go_wp2
     go_loopw [4] (fun si wi=>∃ (i:Nat),i≤len'∧si=.int .i64 i∧Hid (p=Yp len' i (xs.drop i))∧wi.cell? ⟨w.heap.size,0,none⟩=some (.slice (some ⟨b,off,none⟩) 3 cap)∧Below w.heap.size w wi) (fun si _=>len' - (intOf si).toNat)
     case atStart=>exact ⟨0,by omega,rfl,hp',hP,hbel⟩
     case round =>
      clear hP hbel hc'
      obtain ⟨i,hi,rfl,hHi,hP,hbel⟩:=hrel
      have hc':wr.cell? ⟨b,off+k,none⟩=some (.slice a' len' cap'):=by rw [hbel.cell (p:=⟨b,_,none⟩) hblt];exact hc
      by_cases hil:i<len'
      ·have hil2:(i:Int)<(len':Int):=by omega
       rcases hcase' with h0 | ⟨b',off',rfl,hblt',hcell'⟩
       ·omega
       obtain ⟨c0,c1,c2⟩:=hcell' i hil
       have hsi:=Sv (n:=len') (xs:=xs) (k:=i) (by omega)
       generalize xs.getD i (0,0,0)=x at c0 c1 c2 hsi
       have hsi':Hid (Yp len' i (xs.drop i)=((okI x && VI x i len') && Yp len' (i+1) (xs.drop (i+1)))):=hsi
       clear hsi hcell'
       have d0:wr.cell? ⟨b',off'+i*3,none⟩=some (.int .i64 x.1):=by rw [hbel.cell (p:=⟨b',_,none⟩) hblt'];exact c0
       have d1:wr.cell? ⟨b',off'+i*3+1,none⟩=some (.int .i64 x.2.1):=by rw [hbel.cell (p:=⟨b',_,none⟩) hblt'];exact c1
       have d2:wr.cell? ⟨b',off'+i*3+2,none⟩=some (.int .i64 x.2.2):=by rw [hbel.cell (p:=⟨b',_,none⟩) hblt'];exact c2
       clear c0 c1 c2
       go_wp2_with fail
       have e0:(wr.alloc (.cells #[.int .i64 x.1,.int .i64 x.2.1,.int .i64 x.2.2] 122)).cell? ⟨wr.heap.size,0,none⟩=some (.int .i64 x.1):=by simp [go_sem]
       have e1:(wr.alloc (.cells #[.int .i64 x.1,.int .i64 x.2.1,.int .i64 x.2.2] 122)).cell? ⟨wr.heap.size,1,none⟩=some (.int .i64 x.2.1):=by simp [go_sem]
       have e2:(wr.alloc (.cells #[.int .i64 x.1,.int .i64 x.2.1,.int .i64 x.2.2] 122)).cell? ⟨wr.heap.size,2,none⟩=some (.int .i64 x.2.2):=by simp [go_sem]
       have hP0:(wr.alloc (.cells #[.int .i64 x.1,.int .i64 x.2.1,.int .i64 x.2.2] 122)).cell? ⟨w.heap.size,0,none⟩=some (.slice (some ⟨b,off,none⟩) 3 cap):=Za (by go_grown) _ _ hP
       have hc0:(wr.alloc (.cells #[.int .i64 x.1,.int .i64 x.2.1,.int .i64 x.2.2] 122)).cell? ⟨b,off+k,none⟩=some (.slice (some ⟨b',off',none⟩) len' cap'):=Za (by go_grown) _ _ hc'
       have hbel0:Below w.heap.size w (wr.alloc (.cells #[.int .i64 x.1,.int .i64 x.2.1,.int .i64 x.2.2] 122)):=Zb hbel (by go_grown)
       clear hP hc' hbel d0 d1 d2
       generalize wr.alloc (.cells #[.int .i64 x.1,.int .i64 x.2.1,.int .i64 x.2.2] 122)=w0 at e0 e1 e2 hP0 hc0 hbel0
       generalize wr.heap.size=X at e0 e1 e2
       obtain ⟨x0,x1,x2⟩:=x
       have hk0:(0:Int)≤(k:Int):=by omega
       have hi1:IntKind.i64.wrap ((i:Int)+1)=(i:Int)+1:=IntWalk.i64_in _ ⟨by omega,by omega⟩
       have kI:=Jn (x0,x1,x2)
       have kL:=Yx x2 ((i:Int)+1) len'
       unfold I3.val at kI
       simp only [] at e0 e1 e2 kI
       cases hq:okI (x0,x1,x2)
       ·rw [hq] at kI
        have hff:fin=false:=by rw [hH.out,hst'.out,hHi.out,hsi'.out,hq];rfl
        subst hff
        clear hH hst' hHi hsi' hq
        refine wp_region_held_drew (S:=(fun w'=>w'.cell? ⟨X,0,none⟩=some (.int .i64 x0)∧w'.cell? ⟨X,1,none⟩=some (.int .i64 x1)∧w'.cell? ⟨X,2,none⟩=some (.int .i64 x2)∧w'.cell? ⟨w.heap.size,0,none⟩=some (.slice (some ⟨b,off,none⟩) 3 cap)∧w'.cell? ⟨b,off+k,none⟩=some (.slice (some ⟨b',off',none⟩) len' cap'))) (by kernel_rfl) ⟨e0,e1,e2,hP0,hc0⟩ (fun hHeld=>?_)
        refine tkm 0 39 (.agg #[.int .i64 x0,.int .i64 x1,.int .i64 x2]) ?_
        refine tkr 1 40 (fun K hK=>?_)
        go_simp
        refine (kI _).mono ?_
        rintro e w1 ⟨rfl,hb1⟩
        go_wp2_with fail
        refine hK.out _ _ ?_ (fun hHeld1=>?_)
        ·exact ⟨Za hb1 _ _ hHeld.1,Za hb1 _ _ hHeld.2.1,Za hb1 _ _ hHeld.2.2.1,Za hb1 _ _ hHeld.2.2.2.1,Za hb1 _ _ hHeld.2.2.2.2⟩
        clear hK hHeld
        refine tkm 2 41 (.bool true) ?_
        refine tkm 3 42 (.bool true) ?_
        refine tku 4 43 ?_
        refine tku 5 44 ?_
        refine tku 6 45 ?_
        refine tku 7 46 ?_
        refine tku 8 47 ?_
        refine tku 9 48 ?_
        refine tku 10 49 ?_
        refine tku 11 50 ?_
        refine tku 12 51 ?_
        refine tku 13 52 ?_
        refine tku 14 53 ?_
        refine tku 15 54 ?_
        refine tku 16 55 ?_
        refine tku 17 56 ?_
        refine tku 18 57 ?_
        refine tku 19 58 ?_
        refine tku 20 59 ?_
        refine tkm 21 60 (.bool true) ?_
        refine wpAnyH_done (by kernel_rfl) ?_ _
        have hb2:Below w.heap.size w w1:=Zb hbel0 (Zb (by go_grown) hb1)
        go_wp2
        go_ret
        exact ⟨rfl,hb2⟩
       rw [hq] at kI
       by_cases h7:x0=7
       ·subst h7
        have hle:VI (7,x1,x2) i len'=inB x2 ((i:Int)+1) len':=rfl
        cases hr:inB x2 ((i:Int)+1) len'
        ·rw [hr] at kL
         have hff:fin=false:=by rw [hH.out,hst'.out,hHi.out,hsi'.out,hq,hle,hr];rfl
         subst hff
         clear hH hst' hHi hsi' hq hle hr
         go_region_held3 (fun w'=>w'.cell? ⟨X,0,none⟩=some (.int .i64 7)∧w'.cell? ⟨X,1,none⟩=some (.int .i64 x1)∧w'.cell? ⟨X,2,none⟩=some (.int .i64 x2)∧w'.cell? ⟨w.heap.size,0,none⟩=some (.slice (some ⟨b,off,none⟩) 3 cap)∧w'.cell? ⟨b,off+k,none⟩=some (.slice (some ⟨b',off',none⟩) len' cap')) (first | (exact ⟨e0,e1,e2,hP0,hc0⟩) | (refine ⟨?_,?_,?_,?_,?_⟩<;>(apply Za (by assumption);assumption)) | go_keep)
          (first | (go_at_call 97;refine (kI _).mono ?_;rintro e w1 ⟨rfl,hb1⟩) | (go_at_call 98;refine (kL _).mono ?_;rintro e w2 ⟨rfl,rfl⟩))
         have hb2:Below w.heap.size w w1:=Zb hbel0 (Zb (by go_grown) hb1)
         go_wp2
         go_ret
         exact ⟨rfl,hb2⟩
        rw [hr] at kL
        have hHi':Hid (p=Yp len' (i+1) (xs.drop (i+1))):=by rw [Hid,hHi.out,hsi'.out,hq,hle,hr];rfl
        clear hHi hsi' hq hle hr
        go_region_held3 (fun w'=>w'.cell? ⟨X,0,none⟩=some (.int .i64 7)∧w'.cell? ⟨X,1,none⟩=some (.int .i64 x1)∧w'.cell? ⟨X,2,none⟩=some (.int .i64 x2)∧w'.cell? ⟨w.heap.size,0,none⟩=some (.slice (some ⟨b,off,none⟩) 3 cap)∧w'.cell? ⟨b,off+k,none⟩=some (.slice (some ⟨b',off',none⟩) len' cap')) (first | (exact ⟨e0,e1,e2,hP0,hc0⟩) | (refine ⟨?_,?_,?_,?_,?_⟩<;>(apply Za (by assumption);assumption)) | go_keep)
         (first | (go_at_call 97;refine (kI _).mono ?_;rintro e w1 ⟨rfl,hb1⟩) | (go_at_call 98;refine (kL _).mono ?_;rintro e w2 ⟨rfl,rfl⟩))
        have hb2:Below w.heap.size w w1:=Zb hbel0 (Zb (by go_grown) hb1)
        have hP1:w1.cell? ⟨w.heap.size,0,none⟩=some (.slice (some ⟨b,off,none⟩) 3 cap):=Za (Zb (by go_grown) hb1) _ _ hP0
        go_wp2
        go_roundw
        case rel=>exact ⟨i+1,by omega,by go_num,hHi',hP1,hb2⟩
        case measure=>simp [intOf];omega
       have h7':(x0 == 7)=false:=by simpa using h7
       have hle:VI (x0,x1,x2) i len'=true:=if_neg h7
       have hHi':Hid (p=Yp len' (i+1) (xs.drop (i+1))):=by rw [Hid,hHi.out,hsi'.out,hq,hle];rfl
       clear hHi hsi' hq hle
       refine wp_region_held_drew (S:=(fun w'=>w'.cell? ⟨X,0,none⟩=some (.int .i64 x0)∧w'.cell? ⟨X,1,none⟩=some (.int .i64 x1)∧w'.cell? ⟨X,2,none⟩=some (.int .i64 x2)∧w'.cell? ⟨w.heap.size,0,none⟩=some (.slice (some ⟨b,off,none⟩) 3 cap)∧w'.cell? ⟨b,off+k,none⟩=some (.slice (some ⟨b',off',none⟩) len' cap'))) (by kernel_rfl) ⟨e0,e1,e2,hP0,hc0⟩ (fun hHeld=>?_)
       refine tkm 0 39 (.agg #[.int .i64 x0,.int .i64 x1,.int .i64 x2]) ?_
       refine tkr 1 40 (fun K hK=>?_)
       go_simp
       refine (kI _).mono ?_
       rintro e w1 ⟨rfl,hb1⟩
       go_wp2_with fail
       refine hK.out _ _ ?_ (fun hHeld1=>?_)
       ·exact ⟨Za hb1 _ _ hHeld.1,Za hb1 _ _ hHeld.2.1,Za hb1 _ _ hHeld.2.2.1,Za hb1 _ _ hHeld.2.2.2.1,Za hb1 _ _ hHeld.2.2.2.2⟩
       clear hK hHeld
       refine tkm 2 41 (.bool false) ?_
       refine tkm 3 42 (.bool false) ?_
       refine tkm 4 43 (.pointer (some ⟨X,0,none⟩)) ?_
       refine tkm 5 44 (.int .i64 x0) ?_
       refine tkm 6 45 (.bool false) ?_
       refine tkm 7 46 (.bool false) ?_
       refine tku 8 47 ?_
       refine tku 9 48 ?_
       refine tku 10 49 ?_
       refine tku 11 50 ?_
       refine tku 12 51 ?_
       refine tku 13 52 ?_
       refine tku 14 53 ?_
       refine tku 15 54 ?_
       refine tku 16 55 ?_
       refine tku 17 56 ?_
       refine tku 18 57 ?_
       refine tku 19 58 ?_
       refine tkm 20 59 (.bool false) ?_
       refine tkm 21 60 (.bool false) ?_
       refine wpAnyH_done (by kernel_rfl) ?_ _
       have hb2:Below w.heap.size w w1:=Zb hbel0 (Zb (by go_grown) hb1)
       have hP1:w1.cell? ⟨w.heap.size,0,none⟩=some (.slice (some ⟨b,off,none⟩) 3 cap):=Za (Zb (by go_grown) hb1) _ _ hP0
       go_wp2
       go_roundw
       case rel=>exact ⟨i+1,by omega,by go_num,hHi',hP1,hb2⟩
       case measure=>simp [intOf];omega
      obtain rfl:i=len':=by omega
      have hd:Yp i i (xs.drop i)=true:=by rw [List.drop_eq_nil_of_le (by omega)];rfl
      have hff:p=true:=hHi.out.trans hd
      subst hff
      have hH':Hid (fin=(rows.drop (k+1)).all Z7):=by rw [Hid,hH.out,hst'.out];rfl
      clear hH hst' hHi hd hcase'
      go_wp2
      go_roundw
      case rel=>exact ⟨k+1,by omega,by go_num,hH',hP,hbel⟩
      case measure=>simp [intOf];omega
    have hff:fin=false:=by rw [hH.out,hst'.out,Z7,decide_eq_false (by omega)];rfl
    subst hff
    clear hH hst'
    go_wp2
    go_ret
    exact ⟨rfl,hbel⟩
   obtain rfl:k=3:=by omega
   have hd:(rows.drop 3).all Z7=true:=by rw [List.drop_eq_nil_of_le (by omega)];rfl
   have hff:fin=true:=hH.out.trans hd
   subst hff
   clear hH hd hcell
   go_wp2
   go_ret
   exact ⟨rfl,hbel⟩
 have hff:fin=false:=by rw [hfin,Zq,decide_eq_false (by omega)];rfl
 subst hff
 clear hfin
 have h3':(len:Int)≠3:=by omega
 go_enter Tryz.func44,Tryz.ntmps44
 go_wp2
 go_ret
 exact ⟨rfl,by go_grown⟩
end Go.Proofs.YtmhlokahmblboaaGreatDoor
