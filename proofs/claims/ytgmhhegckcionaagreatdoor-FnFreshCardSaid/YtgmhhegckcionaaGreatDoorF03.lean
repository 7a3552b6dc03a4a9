/-
  Joined: Leads, Prog4, CodeI, InstrS.
-/
import Derived.Test.YtgmhhegckcionaaGreatDoorF02

namespace Go.Proofs.YtgmhhegckcionaaGreatDoor
set_option maxRecDepth 100000
set_option maxHeartbeats 16000000
open Go.RowKit

def WY (x:I3) (k n:Int):Bool:=if x.1=7 then inB x.2.2 (k+1) n else true

theorem GO (v:Value) (w:World):(Instr.typeAssert (.iface 237 v) 211 214 true).run Tryz.prog w=.ok (.tuple #[.int .i64 0,.bool false]) w:=by kernel_rfl
theorem LM (v:Value) (w:World):(Instr.typeAssert (.iface 236 v) 211 214 true).run Tryz.prog w=.ok (.tuple #[.int .i64 0,.bool false]) w:=by kernel_rfl
theorem Pe (v:Value) (w:World):(Instr.typeAssert (.iface 238 v) 211 214 true).run Tryz.prog w=.ok (.tuple #[.int .i64 0,.bool false]) w:=by kernel_rfl
theorem CJ (v:Value) (w:World):(Instr.typeAssert (.iface 240 v) 211 214 true).run Tryz.prog w=.ok (.tuple #[.int .i64 0,.bool false]) w:=by kernel_rfl
theorem GP (v:Value) (w:World):(Instr.typeAssert (.iface 214 v) 211 214 true).run Tryz.prog w=.ok (.tuple #[v,.bool true]) w:=by kernel_rfl
theorem Bc (w:World):(Instr.typeAssert .nilIface 211 214 true).run Tryz.prog w=.ok (.tuple #[.int .i64 0,.bool false]) w:=by kernel_rfl

theorem H0 (a b k n:Int) (w:World):Calls Tryz.prog 108 #[.agg #[.int .i64 1,.int .i64 a,.int .i64 b],.int .i64 k,.int .i64 n] w fun e w'=>e=.returned (.bool true)∧Below w.heap.size w w':=by
 have ta:=GO (.int .i64 b)
 go_enter Tryz.func108,Tryz.ntmps108
 go_wp2_with fail
 refine (SH a b _).mono ?_
 rintro e w1 ⟨rfl,hb1⟩
 have hb:Below w.heap.size w w1:=Zb (by go_grown) hb1
 clear hb1
 go_wp2
 go_ret
 exact ⟨rfl,hb⟩

theorem H4 (a b k n:Int) (w:World):Calls Tryz.prog 108 #[.agg #[.int .i64 2,.int .i64 a,.int .i64 b],.int .i64 k,.int .i64 n] w fun e w'=>e=.returned (.bool true)∧Below w.heap.size w w':=by
 have ta:=LM (.int .i64 b)
 go_enter Tryz.func108,Tryz.ntmps108
 go_wp2_with fail
 refine (SI a b _).mono ?_
 rintro e w1 ⟨rfl,hb1⟩
 have hb:Below w.heap.size w w1:=Zb (by go_grown) hb1
 clear hb1
 go_wp2
 go_ret
 exact ⟨rfl,hb⟩

theorem H5 (a b k n:Int) (w:World):Calls Tryz.prog 108 #[.agg #[.int .i64 3,.int .i64 a,.int .i64 b],.int .i64 k,.int .i64 n] w fun e w'=>e=.returned (.bool true)∧Below w.heap.size w w':=by
 have ta:=Pe (.int .i64 b)
 go_enter Tryz.func108,Tryz.ntmps108
 go_wp2_with fail
 refine (SJ a b _).mono ?_
 rintro e w1 ⟨rfl,hb1⟩
 have hb:Below w.heap.size w w1:=Zb (by go_grown) hb1
 clear hb1
 go_wp2
 go_ret
 exact ⟨rfl,hb⟩

theorem H6 (a b k n:Int) (w:World):Calls Tryz.prog 108 #[.agg #[.int .i64 4,.int .i64 a,.int .i64 b],.int .i64 k,.int .i64 n] w fun e w'=>e=.returned (.bool true)∧Below w.heap.size w w':=by
 have ta:=Pe (.int .i64 b)
 go_enter Tryz.func108,Tryz.ntmps108
 go_wp2_with fail
 refine (SK a b _).mono ?_
 rintro e w1 ⟨rfl,hb1⟩
 have hb:Below w.heap.size w w1:=Zb (by go_grown) hb1
 clear hb1
 go_wp2
 go_ret
 exact ⟨rfl,hb⟩

theorem H7 (a b k n:Int) (w:World):Calls Tryz.prog 108 #[.agg #[.int .i64 5,.int .i64 a,.int .i64 b],.int .i64 k,.int .i64 n] w fun e w'=>e=.returned (.bool true)∧Below w.heap.size w w':=by
 have ta:=CJ (.int .i64 b)
 go_enter Tryz.func108,Tryz.ntmps108
 go_wp2_with fail
 refine (SL a b _).mono ?_
 rintro e w1 ⟨rfl,hb1⟩
 have hb:Below w.heap.size w w1:=Zb (by go_grown) hb1
 clear hb1
 go_wp2
 go_ret
 exact ⟨rfl,hb⟩

theorem H8 (a b k n:Int) (w:World):Calls Tryz.prog 108 #[.agg #[.int .i64 6,.int .i64 a,.int .i64 b],.int .i64 k,.int .i64 n] w fun e w'=>e=.returned (.bool true)∧Below w.heap.size w w':=by
 have ta:=CJ (.int .i64 b)
 go_enter Tryz.func108,Tryz.ntmps108
 go_wp2_with fail
 refine (SM a b _).mono ?_
 rintro e w1 ⟨rfl,hb1⟩
 have hb:Below w.heap.size w w1:=Zb (by go_grown) hb1
 clear hb1
 go_wp2
 go_ret
 exact ⟨rfl,hb⟩

theorem Ga (a b k n:Int) (w:World):Calls Tryz.prog 108 #[.agg #[.int .i64 8,.int .i64 a,.int .i64 b],.int .i64 k,.int .i64 n] w fun e w'=>e=.returned (.bool true)∧Below w.heap.size w w':=by
 have ta:=Pe (.int .i64 b)
 go_enter Tryz.func108,Tryz.ntmps108
 go_wp2_with fail
 refine (SN a b _).mono ?_
 rintro e w1 ⟨rfl,hb1⟩
 have hb:Below w.heap.size w w1:=Zb (by go_grown) hb1
 clear hb1
 go_wp2
 go_ret
 exact ⟨rfl,hb⟩

theorem HU (c a b k n:Int) (w:World) (h:c≠1∧c≠2∧c≠3∧c≠4∧c≠5∧c≠6∧c≠7∧c≠8):Calls Tryz.prog 108 #[.agg #[.int .i64 c,.int .i64 a,.int .i64 b],.int .i64 k,.int .i64 n] w fun e w'=>e=.returned (.bool true)∧Below w.heap.size w w':=by
 have ta:=Bc
 go_enter Tryz.func108,Tryz.ntmps108
 go_wp2_with fail
 refine (SG c a b _ h).mono ?_
 rintro e w1 ⟨rfl,hb1⟩
 have hb:Below w.heap.size w w1:=Zb (by go_grown) hb1
 clear hb1 h
 go_wp2
 go_ret
 exact ⟨rfl,hb⟩

theorem H9 (a b k n:Int) (w:World):Calls Tryz.prog 108 #[.agg #[.int .i64 7,.int .i64 a,.int .i64 b],.int .i64 k,.int .i64 n] w fun e w'=>e=.returned (.bool (inB b (k+1) n))∧Below w.heap.size w w':=by
 obtain ⟨p,hp⟩:∃ p,p=inB b (k+1) n:=⟨_,rfl⟩
 rw [← hp]
 have ta:=GP (.int .i64 b)
 by_cases h1:k<b
 ·have hp':p=decide (b≤n):=by
   subst hp
   by_cases h2:b≤n
   ·rw [decide_eq_true h2,ZD];omega
   rw [decide_eq_false h2,YE];omega
  clear hp
  subst hp'
  go_enter Tryz.func108,Tryz.ntmps108
  go_wp2_with fail
  refine (UD a b _).mono ?_
  rintro e w1 ⟨rfl,hb1⟩
  have hb:Below w.heap.size w w1:=Zb (by go_grown) hb1
  clear hb1
  go_wp2
  go_ret
  exact ⟨rfl,hb⟩
 have hp':p=false:=by
  subst hp
  rw [YE];omega
 clear hp
 subst hp'
 go_enter Tryz.func108,Tryz.ntmps108
 go_wp2_with fail
 refine (UD a b _).mono ?_
 rintro e w1 ⟨rfl,hb1⟩
 have hb:Below w.heap.size w w1:=Zb (by go_grown) hb1
 clear hb1
 go_wp2
 go_ret
 exact ⟨rfl,hb⟩

theorem Kv (x:I3) (k n:Int) (w:World):Calls Tryz.prog 108 #[x.val,.int .i64 k,.int .i64 n] w fun e w'=>e=.returned (.bool (WY x k n))∧Below w.heap.size w w':=by
 obtain ⟨c,a,b⟩:=x
 unfold I3.val WY
 rcases Ui (c,a,b) with h | h | h | h | h | h | h | h | h

 ·obtain rfl:c=1:=h
  simpa using H0 a b k n w
 ·obtain rfl:c=2:=h
  simpa using H4 a b k n w
 ·obtain rfl:c=3:=h
  simpa using H5 a b k n w
 ·obtain rfl:c=4:=h
  simpa using H6 a b k n w
 ·obtain rfl:c=5:=h
  simpa using H7 a b k n w
 ·obtain rfl:c=6:=h
  simpa using H8 a b k n w
 ·obtain rfl:c=7:=h
  simpa using H9 a b k n w
 ·obtain rfl:c=8:=h
  simpa using Ga a b k n w
 have h':=h
 obtain ⟨h1,h2,h3,h4,h5,h6,h7,h8⟩:=h
 simp only [] at h7
 rw [if_neg h7]
 exact HU c a b k n w h'


theorem Za {w w':World} (h:Below w.heap.size w w'):∀ (p:Addr) (v:Value),w.cell? p=some v→w'.cell? p=some v:=by
 intro p v hv
 have hlt:p.block<w.heap.size:=by
  rcases Nat.lt_or_ge p.block w.heap.size with h' | h'
  ·exact h'
  simp [World.cell?,Array.getElem?_eq_none h'] at hv
 rw [h.cell hlt]
 exact hv


def Z4 (n:Nat):Nat→List I3→Bool
 | _,[]=>true
 | i,x::xs=>(okI x && WY x i n) && Z4 n (i+1) xs

def ZP (xs:List I3):Bool:=decide (xs.length≤6) && Z4 xs.length 0 xs

theorem RN {n k:Nat} {xs:List I3} (hk:k<xs.length):Z4 n k (xs.drop k)=((okI (xs.getD k (0,0,0)) && WY (xs.getD k (0,0,0)) k n) && Z4 n (k+1) (xs.drop (k+1))):=by
 rw [List.drop_eq_getElem_cons hk]
 show ((okI (xs[k]) && WY (xs[k]) k n) && Z4 n (k+1) (xs.drop (k+1)))=_
 simp [List.getD,hk]

theorem Mz (a:Option Addr) (len cap:Nat) (w:World) (hl:len≤maxLen) (hlen:6<len) :
  Calls Tryz.prog 71 #[.slice a len cap] w fun e w'=>e=.returned (.bool false)∧Below w.heap.size w w':=by
 unfold maxLen at hl
 go_enter Tryz.func71,Tryz.ntmps71
 go_wp2
 go_ret
 exact ⟨rfl,by go_grown⟩

theorem NT (a:Option Addr) (len cap:Nat) (xs:List I3) (w:World) (h:Zr w a len cap xs) (hlen:len≤6) :
  Calls Tryz.prog 71 #[.slice a len cap] w fun e w'=>e=.returned (.bool (Z4 len 0 xs))∧Below w.heap.size w w':=by
 obtain ⟨fin,hfin⟩:∃ fin,fin=Z4 len 0 xs:=⟨_,rfl⟩
 rw [← hfin]
 have hfin':Hid (fin=Z4 len 0 (xs.drop 0)):=hfin
 clear hfin
 obtain ⟨hl,hlc,hcm,_,hcase⟩:=h
 unfold maxLen at hcm
 go_enter Tryz.func71,Tryz.ntmps71
 go_wp2
 go_loopw [10] (fun si wr=>∃ (k:Nat),k≤len∧si=.int .i64 k∧Hid (fin=Z4 len k (xs.drop k))∧Below w.heap.size w wr) (fun si _=>len - (intOf si).toNat)
 case atStart=>exact ⟨0,by omega,rfl,hfin',by go_grown⟩
 case round =>
  obtain ⟨k,hk,rfl,hH,hbel⟩:=hrel
  by_cases hlt:k<len
  ·rcases hcase with h0 | ⟨b,off,rfl,hblt,hcell⟩
   ·omega
   have hlt2:(k:Int)<(len:Int):=by omega
   obtain ⟨c0,c1,c2⟩:=hcell k hlt
   have hst:=RN (n:=len) (xs:=xs) (k:=k) (by omega)
   generalize xs.getD k (0,0,0)=x at c0 c1 c2 hst
   have hst':Hid (Z4 len k (xs.drop k)=((okI x && WY x k len) && Z4 len (k+1) (xs.drop (k+1)))):=hst
   clear hst hcell
   have d0:wr.cell? ⟨b,off+k*3,none⟩=some (.int .i64 x.1):=by rw [hbel.cell (p:=⟨b,_,none⟩) hblt];exact c0
   have d1:wr.cell? ⟨b,off+k*3+1,none⟩=some (.int .i64 x.2.1):=by rw [hbel.cell (p:=⟨b,_,none⟩) hblt];exact c1
   have d2:wr.cell? ⟨b,off+k*3+2,none⟩=some (.int .i64 x.2.2):=by rw [hbel.cell (p:=⟨b,_,none⟩) hblt];exact c2
   clear c0 c1 c2
   go_wp2_with fail
   refine (Kp x _).mono ?_
   rintro e w1 ⟨rfl,hb1⟩
   have e0:w1.cell? ⟨wr.heap.size,0,none⟩=some (.int .i64 x.1):=by rw [hb1.cell (by simp)];simp [go_sem]
   have e1:w1.cell? ⟨wr.heap.size,1,none⟩=some (.int .i64 x.2.1):=by rw [hb1.cell (by simp)];simp [go_sem]
   have e2:w1.cell? ⟨wr.heap.size,2,none⟩=some (.int .i64 x.2.2):=by rw [hb1.cell (by simp)];simp [go_sem]
   have hb2:Below w.heap.size w w1:=Zb hbel (Zb (by go_grown) hb1)
   clear hb1 hbel d0 d1 d2
   cases hp:okI x
   ·have hff:fin=false:=by rw [hH.out,hst'.out,hp];rfl
    subst hff
    clear hH hst' hp
    go_wp2
    go_ret
    exact ⟨rfl,hb2⟩
   go_wp2_with fail
   refine (Kv x _ _ _).mono ?_
   rintro e w2 ⟨rfl,hb3⟩
   have hb4:=Zb hb2 hb3
   clear hb2 hb3 e0 e1 e2
   cases hq:WY x k len
   ·have hff:fin=false:=by rw [hH.out,hst'.out,hp,hq];rfl
    subst hff
    clear hH hst' hp hq
    go_wp2
    go_ret
    exact ⟨rfl,hb4⟩
   have hH':Hid (fin=Z4 len (k+1) (xs.drop (k+1))):=by rw [Hid,hH.out,hst'.out,hp,hq];rfl
   clear hH hst' hp hq
   go_wp2
   go_roundw
   case rel=>exact ⟨k+1,by omega,by go_num,hH',hb4⟩
   case measure=>simp [intOf];omega
  obtain rfl:k=len:=by omega
  have hd:Z4 k k (xs.drop k)=true:=by rw [List.drop_eq_nil_of_le (by omega)];rfl
  have hff:fin=true:=hH.out.trans hd
  subst hff
  clear hH hd hcase
  go_wp2
  go_ret
  exact ⟨rfl,hbel⟩

theorem JP (a:Option Addr) (len cap:Nat) (xs:List I3) (w:World) (h:Zr w a len cap xs) :
  Calls Tryz.prog 71 #[.slice a len cap] w fun e w'=>e=.returned (.bool (ZP xs))∧Below w.heap.size w w':=by
 unfold ZP
 by_cases hlen:len≤6
 ·have:=NT a len cap xs w h hlen
  simpa [h.1,hlen] using this
 have:=Mz a len cap w (Nat.le_trans h.2.1 h.2.2.1) (by omega)
 simpa [h.1,hlen] using this

def Zf (rows:List (List I3)):Bool:=decide (rows.length=3) && rows.all ZP

theorem Mt {rows:List (List I3)} {k:Nat} (hk:k<rows.length):(rows.drop k).all ZP=(ZP (rows.getD k []) && (rows.drop (k+1)).all ZP):=by
 rw [List.drop_eq_getElem_cons hk,List.all_cons]
 simp [List.getD,hk]

theorem Ud (a:Option Addr) (len cap:Nat) (rows:List (List I3)) (w:World) (h:YT w a len cap rows) :
  Calls Tryz.prog 37 #[.agg #[.slice a len cap]] w fun e w'=>e=.returned (.bool (Zf rows))∧Below w.heap.size w w':=by
 obtain ⟨fin,hfin⟩:∃ fin,fin=Zf rows:=⟨_,rfl⟩
 rw [← hfin]
 obtain ⟨hl,hlc,hcm,hcase⟩:=h
 unfold maxLen at hcm
 by_cases h3:len=3
 ·subst h3
  have hfin':Hid (fin=(rows.drop 0).all ZP):=by rw [Hid,hfin,Zf,decide_eq_true hl];rfl
  clear hfin
  rcases hcase with h0 | ⟨b,off,rfl,hblt,hcell⟩
  ·omega
  go_enter Tryz.func37,Tryz.ntmps37
  go_wp2
  go_loopw [12] (fun si wr=>∃ (k:Nat),k≤3∧si=.int .i64 k∧Hid (fin=(rows.drop k).all ZP)∧Below w.heap.size w wr) (fun si _=>3 - (intOf si).toNat)
  case atStart=>exact ⟨0,by omega,rfl,hfin',by go_grown⟩
  case round =>
   obtain ⟨k,hk,rfl,hH,hbel⟩:=hrel
   by_cases hlt:k<3
   ·have hlt2:(k:Int)<3:=by omega
    obtain ⟨a',len',cap',hc,hI⟩:=hcell k hlt
    have hst:=Mt (rows:=rows) (k:=k) (by omega)
    generalize rows.getD k []=xs at hI hst
    have hst':Hid ((rows.drop k).all ZP=(ZP xs && (rows.drop (k+1)).all ZP)):=hst
    clear hst hcell
    have hc':wr.cell? ⟨b,off+k,none⟩=some (.slice a' len' cap'):=by rw [hbel.cell (p:=⟨b,_,none⟩) hblt];exact hc
    have hI':=hI.below hbel
    clear hc hI
    go_wp2_with fail
    refine (JP a' len' cap' xs _ (hI'.below (by go_grown))).mono ?_
    rintro e w1 ⟨rfl,hb1⟩
    have hb2:Below w.heap.size w w1:=Zb hbel (Zb (by go_grown) hb1)
    clear hb1 hbel hc' hI'
    cases hp:ZP xs
    ·have hff:fin=false:=by rw [hH.out,hst'.out,hp];rfl
     subst hff
     clear hH hst' hp
     go_wp2
     go_ret
     exact ⟨rfl,hb2⟩
    have hH':Hid (fin=(rows.drop (k+1)).all ZP):=by rw [Hid,hH.out,hst'.out,hp];rfl
    clear hH hst' hp
    go_wp2
    go_roundw
    case rel=>exact ⟨k+1,by omega,by go_num,hH',hb2⟩
    case measure=>simp [intOf];omega
   obtain rfl:k=3:=by omega
   have hd:(rows.drop 3).all ZP=true:=by rw [List.drop_eq_nil_of_le (by omega)];rfl
   have hff:fin=true:=hH.out.trans hd
   subst hff
   clear hH hd hcell
   go_wp2
   go_ret
   exact ⟨rfl,hbel⟩
 have hff:fin=false:=by rw [hfin,Zf,decide_eq_false (by omega)];rfl
 subst hff
 clear hfin
 have h3':(len:Int)≠3:=by omega
 go_enter Tryz.func37,Tryz.ntmps37
 go_wp2
 go_ret
 exact ⟨rfl,by go_grown⟩


theorem YP (n a b:Int) (w:World):Calls Tryz.prog 77 #[.int .i64 n,.int .i64 a,.int .i64 b] w fun e w'=>e=.returned (.bool (inB n a b))∧w=w':=by
 cases h:inB n a b
 ·exact FD n a b w (YE.1 h)
 exact Hz n a b w (ZD.1 h)

theorem De (a b:Int) (w:World):Calls Tryz.prog 76 #[.agg #[.int .i64 1,.int .i64 a,.int .i64 b]] w fun e w'=>e=.returned (.bool (inB a 0 1 && inB b 0 3))∧Below w.heap.size w w':=by
 have kA:=YP a 0 1
 have kB:=YP b 0 3
 generalize inB a 0 1=p at kA
 generalize inB b 0 3=q at kB
 go_enter Tryz.func76,Tryz.ntmps76
 go_wp2_with fail
 refine (kA _).mono ?_
 rintro e w1 ⟨rfl,rfl⟩
 cases p
 ·go_wp2_with fail
  go_ret
  exact ⟨rfl,by go_grown⟩
 go_wp2_with fail
 refine (kB _).mono ?_
 rintro e w1 ⟨rfl,rfl⟩
 go_wp2_with fail
 go_ret
 exact ⟨rfl,by go_grown⟩

theorem Df (a b:Int) (w:World):Calls Tryz.prog 76 #[.agg #[.int .i64 2,.int .i64 a,.int .i64 b]] w fun e w'=>e=.returned (.bool (inB a 0 3 && inB b 0 1))∧Below w.heap.size w w':=by
 have kA:=YP a 0 3
 have kB:=YP b 0 1
 generalize inB a 0 3=p at kA
 generalize inB b 0 1=q at kB
 go_enter Tryz.func76,Tryz.ntmps76
 go_wp2_with fail
 refine (kA _).mono ?_
 rintro e w1 ⟨rfl,rfl⟩
 cases p
 ·go_wp2_with fail
  go_ret
  exact ⟨rfl,by go_grown⟩
 go_wp2_with fail
 refine (kB _).mono ?_
 rintro e w1 ⟨rfl,rfl⟩
 go_wp2_with fail
 go_ret
 exact ⟨rfl,by go_grown⟩

theorem Dg (a b:Int) (w:World):Calls Tryz.prog 76 #[.agg #[.int .i64 3,.int .i64 a,.int .i64 b]] w fun e w'=>e=.returned (.bool (inB a 0 1 && inB b 0 9))∧Below w.heap.size w w':=by
 have kA:=YP a 0 1
 have kB:=YP b 0 9
 generalize inB a 0 1=p at kA
 generalize inB b 0 9=q at kB
 go_enter Tryz.func76,Tryz.ntmps76
 go_wp2_with fail
 refine (kA _).mono ?_
 rintro e w1 ⟨rfl,rfl⟩
 cases p
 ·go_wp2_with fail
  go_ret
  exact ⟨rfl,by go_grown⟩
 go_wp2_with fail
 refine (kB _).mono ?_
 rintro e w1 ⟨rfl,rfl⟩
 go_wp2_with fail
 go_ret
 exact ⟨rfl,by go_grown⟩

theorem Dh (a b:Int) (w:World):Calls Tryz.prog 76 #[.agg #[.int .i64 4,.int .i64 a,.int .i64 b]] w fun e w'=>e=.returned (.bool (inB a 0 1 && inB b 0 9))∧Below w.heap.size w w':=by
 have kA:=YP a 0 1
 have kB:=YP b 0 9
 generalize inB a 0 1=p at kA
 generalize inB b 0 9=q at kB
 go_enter Tryz.func76,Tryz.ntmps76
 go_wp2_with fail
 refine (kA _).mono ?_
 rintro e w1 ⟨rfl,rfl⟩
 cases p
 ·go_wp2_with fail
  go_ret
  exact ⟨rfl,by go_grown⟩
 go_wp2_with fail
 refine (kB _).mono ?_
 rintro e w1 ⟨rfl,rfl⟩
 go_wp2_with fail
 go_ret
 exact ⟨rfl,by go_grown⟩

theorem Di (a b:Int) (w:World):Calls Tryz.prog 76 #[.agg #[.int .i64 5,.int .i64 a,.int .i64 b]] w fun e w'=>e=.returned (.bool (inB a 0 1 && inB b 0 0))∧Below w.heap.size w w':=by
 have kA:=YP a 0 1
 generalize inB a 0 1=p at kA
 have kB:(b == 0)=inB b 0 0:=by
  cases h:inB b 0 0
  ·rw [YE] at h
   simp;omega
  rw [ZD] at h
  simp;omega
 rw [← kB]
 clear kB
 go_enter Tryz.func76,Tryz.ntmps76
 go_wp2_with fail
 refine (kA _).mono ?_
 rintro e w1 ⟨rfl,rfl⟩
 cases p
 ·go_wp2_with fail
  go_ret
  exact ⟨rfl,by go_grown⟩
 go_wp2_with fail
 go_ret
 exact ⟨by simp,by go_grown⟩

theorem Dj (a b:Int) (w:World):Calls Tryz.prog 76 #[.agg #[.int .i64 6,.int .i64 a,.int .i64 b]] w fun e w'=>e=.returned (.bool (inB a 0 1 && inB b 0 0))∧Below w.heap.size w w':=by
 have kA:=YP a 0 1
 generalize inB a 0 1=p at kA
 have kB:(b == 0)=inB b 0 0:=by
  cases h:inB b 0 0
  ·rw [YE] at h
   simp;omega
  rw [ZD] at h
  simp;omega
 rw [← kB]
 clear kB
 go_enter Tryz.func76,Tryz.ntmps76
 go_wp2_with fail
 refine (kA _).mono ?_
 rintro e w1 ⟨rfl,rfl⟩
 cases p
 ·go_wp2_with fail
  go_ret
  exact ⟨rfl,by go_grown⟩
 go_wp2_with fail
 go_ret
 exact ⟨by simp,by go_grown⟩

theorem Dk (a b:Int) (w:World):Calls Tryz.prog 76 #[.agg #[.int .i64 7,.int .i64 a,.int .i64 b]] w fun e w'=>e=.returned (.bool (inB a 0 1 && inB b 1 6))∧Below w.heap.size w w':=by
 have kA:=YP a 0 1
 have kB:=YP b 1 6
 generalize inB a 0 1=p at kA
 generalize inB b 1 6=q at kB
 go_enter Tryz.func76,Tryz.ntmps76
 go_wp2_with fail
 refine (kA _).mono ?_
 rintro e w1 ⟨rfl,rfl⟩
 cases p
 ·go_wp2_with fail
  go_ret
  exact ⟨rfl,by go_grown⟩
 go_wp2_with fail
 refine (kB _).mono ?_
 rintro e w1 ⟨rfl,rfl⟩
 go_wp2_with fail
 go_ret
 exact ⟨rfl,by go_grown⟩

theorem Dl (a b:Int) (w:World):Calls Tryz.prog 76 #[.agg #[.int .i64 8,.int .i64 a,.int .i64 b]] w fun e w'=>e=.returned (.bool (inB a 0 1 && inB b 0 9))∧Below w.heap.size w w':=by
 have kA:=YP a 0 1
 have kB:=YP b 0 9
 generalize inB a 0 1=p at kA
 generalize inB b 0 9=q at kB
 go_enter Tryz.func76,Tryz.ntmps76
 go_wp2_with fail
 refine (kA _).mono ?_
 rintro e w1 ⟨rfl,rfl⟩
 cases p
 ·go_wp2_with fail
  go_ret
  exact ⟨rfl,by go_grown⟩
 go_wp2_with fail
 refine (kB _).mono ?_
 rintro e w1 ⟨rfl,rfl⟩
 go_wp2_with fail
 go_ret
 exact ⟨rfl,by go_grown⟩

theorem Dd (c a b:Int) (w:World) (h:c≠1∧c≠2∧c≠3∧c≠4∧c≠5∧c≠6∧c≠7∧c≠8):Calls Tryz.prog 76 #[.agg #[.int .i64 c,.int .i64 a,.int .i64 b]] w fun e w'=>e=.returned (.bool false)∧Below w.heap.size w w':=by
 obtain ⟨h1,h2,h3,h4,h5,h6,h7,h8⟩:=h
 go_enter Tryz.func76,Tryz.ntmps76
 go_wp2
 go_ret
 exact ⟨rfl,by go_grown⟩

theorem GH (x:I3) (w:World):Calls Tryz.prog 76 #[x.val] w fun e w'=>e=.returned (.bool (okI x))∧Below w.heap.size w w':=by
 obtain ⟨c,a,b⟩:=x
 unfold I3.val okI
 rcases Ui (c,a,b) with h | h | h | h | h | h | h | h | h

 ·obtain rfl:c=1:=h
  simpa using De a b w
 ·obtain rfl:c=2:=h
  simpa using Df a b w
 ·obtain rfl:c=3:=h
  simpa using Dg a b w
 ·obtain rfl:c=4:=h
  simpa using Dh a b w
 ·obtain rfl:c=5:=h
  simpa using Di a b w
 ·obtain rfl:c=6:=h
  simpa using Dj a b w
 ·obtain rfl:c=7:=h
  simpa using Dk a b w
 ·obtain rfl:c=8:=h
  simpa using Dl a b w
 have h':=h
 obtain ⟨h1,h2,h3,h4,h5,h6,h7,h8⟩:=h
 simp only [] at h1 h2 h3 h4 h5 h6 h7 h8
 rw [if_neg h1,if_neg h2,if_neg (by simp;omega),if_neg (by simp;omega),if_neg h7]
 exact Dd c a b w h'
end Go.Proofs.YtgmhhegckcionaaGreatDoor
