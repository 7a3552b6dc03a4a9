/-
  Joined: Leads, Prog4, CodeI, InstrS.
-/
import Derived.Test.YtgmhhegckcionaaGreatDoorP02

namespace Go.Proofs.YtgmhhegckcionaaGreatDoor
set_option maxRecDepth 100000
set_option maxHeartbeats 16000000
open Go.RowKit

def leads (x:I3) (k n:Int):Bool:=if x.1=7 then inB x.2.2 (k+1) n else true

theorem to_shared (v:Value) (w:World):(Instr.typeAssert (.iface 237 v) 211 214 true).run Tryz.prog w=.ok (.tuple #[.int .i64 0,.bool false]) w:=by kernel_rfl
theorem to_register (v:Value) (w:World):(Instr.typeAssert (.iface 236 v) 211 214 true).run Tryz.prog w=.ok (.tuple #[.int .i64 0,.bool false]) w:=by kernel_rfl
theorem to_value (v:Value) (w:World):(Instr.typeAssert (.iface 238 v) 211 214 true).run Tryz.prog w=.ok (.tuple #[.int .i64 0,.bool false]) w:=by kernel_rfl
theorem to_no (v:Value) (w:World):(Instr.typeAssert (.iface 240 v) 211 214 true).run Tryz.prog w=.ok (.tuple #[.int .i64 0,.bool false]) w:=by kernel_rfl
theorem to_target (v:Value) (w:World):(Instr.typeAssert (.iface 214 v) 211 214 true).run Tryz.prog w=.ok (.tuple #[v,.bool true]) w:=by kernel_rfl
theorem to_nil (w:World):(Instr.typeAssert .nilIface 211 214 true).run Tryz.prog w=.ok (.tuple #[.int .i64 0,.bool false]) w:=by kernel_rfl

theorem leadsOn_1 (a b k n:Int) (w:World):Calls Tryz.prog 108 #[.agg #[.int .i64 1,.int .i64 a,.int .i64 b],.int .i64 k,.int .i64 n] w fun e w'=>e=.returned (.bool true)∧Below w.heap.size w w':=by
 have ta:=to_shared (.int .i64 b)
 go_enter Tryz.func108,Tryz.ntmps108
 go_wp2_with fail
 refine (operandsOf_1 a b _).mono ?_
 rintro e w1 ⟨rfl,hb1⟩
 have hb:Below w.heap.size w w1:=bel_trans (by go_grown) hb1
 clear hb1
 go_wp2
 go_ret
 exact ⟨rfl,hb⟩

theorem leadsOn_2 (a b k n:Int) (w:World):Calls Tryz.prog 108 #[.agg #[.int .i64 2,.int .i64 a,.int .i64 b],.int .i64 k,.int .i64 n] w fun e w'=>e=.returned (.bool true)∧Below w.heap.size w w':=by
 have ta:=to_register (.int .i64 b)
 go_enter Tryz.func108,Tryz.ntmps108
 go_wp2_with fail
 refine (operandsOf_2 a b _).mono ?_
 rintro e w1 ⟨rfl,hb1⟩
 have hb:Below w.heap.size w w1:=bel_trans (by go_grown) hb1
 clear hb1
 go_wp2
 go_ret
 exact ⟨rfl,hb⟩

theorem leadsOn_3 (a b k n:Int) (w:World):Calls Tryz.prog 108 #[.agg #[.int .i64 3,.int .i64 a,.int .i64 b],.int .i64 k,.int .i64 n] w fun e w'=>e=.returned (.bool true)∧Below w.heap.size w w':=by
 have ta:=to_value (.int .i64 b)
 go_enter Tryz.func108,Tryz.ntmps108
 go_wp2_with fail
 refine (operandsOf_3 a b _).mono ?_
 rintro e w1 ⟨rfl,hb1⟩
 have hb:Below w.heap.size w w1:=bel_trans (by go_grown) hb1
 clear hb1
 go_wp2
 go_ret
 exact ⟨rfl,hb⟩

theorem leadsOn_4 (a b k n:Int) (w:World):Calls Tryz.prog 108 #[.agg #[.int .i64 4,.int .i64 a,.int .i64 b],.int .i64 k,.int .i64 n] w fun e w'=>e=.returned (.bool true)∧Below w.heap.size w w':=by
 have ta:=to_value (.int .i64 b)
 go_enter Tryz.func108,Tryz.ntmps108
 go_wp2_with fail
 refine (operandsOf_4 a b _).mono ?_
 rintro e w1 ⟨rfl,hb1⟩
 have hb:Below w.heap.size w w1:=bel_trans (by go_grown) hb1
 clear hb1
 go_wp2
 go_ret
 exact ⟨rfl,hb⟩

theorem leadsOn_5 (a b k n:Int) (w:World):Calls Tryz.prog 108 #[.agg #[.int .i64 5,.int .i64 a,.int .i64 b],.int .i64 k,.int .i64 n] w fun e w'=>e=.returned (.bool true)∧Below w.heap.size w w':=by
 have ta:=to_no (.int .i64 b)
 go_enter Tryz.func108,Tryz.ntmps108
 go_wp2_with fail
 refine (operandsOf_5 a b _).mono ?_
 rintro e w1 ⟨rfl,hb1⟩
 have hb:Below w.heap.size w w1:=bel_trans (by go_grown) hb1
 clear hb1
 go_wp2
 go_ret
 exact ⟨rfl,hb⟩

theorem leadsOn_6 (a b k n:Int) (w:World):Calls Tryz.prog 108 #[.agg #[.int .i64 6,.int .i64 a,.int .i64 b],.int .i64 k,.int .i64 n] w fun e w'=>e=.returned (.bool true)∧Below w.heap.size w w':=by
 have ta:=to_no (.int .i64 b)
 go_enter Tryz.func108,Tryz.ntmps108
 go_wp2_with fail
 refine (operandsOf_6 a b _).mono ?_
 rintro e w1 ⟨rfl,hb1⟩
 have hb:Below w.heap.size w w1:=bel_trans (by go_grown) hb1
 clear hb1
 go_wp2
 go_ret
 exact ⟨rfl,hb⟩

theorem leadsOn_8 (a b k n:Int) (w:World):Calls Tryz.prog 108 #[.agg #[.int .i64 8,.int .i64 a,.int .i64 b],.int .i64 k,.int .i64 n] w fun e w'=>e=.returned (.bool true)∧Below w.heap.size w w':=by
 have ta:=to_value (.int .i64 b)
 go_enter Tryz.func108,Tryz.ntmps108
 go_wp2_with fail
 refine (operandsOf_8 a b _).mono ?_
 rintro e w1 ⟨rfl,hb1⟩
 have hb:Below w.heap.size w w1:=bel_trans (by go_grown) hb1
 clear hb1
 go_wp2
 go_ret
 exact ⟨rfl,hb⟩

theorem leadsOn_0 (c a b k n:Int) (w:World) (h:c≠1∧c≠2∧c≠3∧c≠4∧c≠5∧c≠6∧c≠7∧c≠8):Calls Tryz.prog 108 #[.agg #[.int .i64 c,.int .i64 a,.int .i64 b],.int .i64 k,.int .i64 n] w fun e w'=>e=.returned (.bool true)∧Below w.heap.size w w':=by
 have ta:=to_nil
 go_enter Tryz.func108,Tryz.ntmps108
 go_wp2_with fail
 refine (operandsOf_0 c a b _ h).mono ?_
 rintro e w1 ⟨rfl,hb1⟩
 have hb:Below w.heap.size w w1:=bel_trans (by go_grown) hb1
 clear hb1 h
 go_wp2
 go_ret
 exact ⟨rfl,hb⟩

theorem leadsOn_7 (a b k n:Int) (w:World):Calls Tryz.prog 108 #[.agg #[.int .i64 7,.int .i64 a,.int .i64 b],.int .i64 k,.int .i64 n] w fun e w'=>e=.returned (.bool (inB b (k+1) n))∧Below w.heap.size w w':=by
 obtain ⟨p,hp⟩:∃ p,p=inB b (k+1) n:=⟨_,rfl⟩
 rw [← hp]
 have ta:=to_target (.int .i64 b)
 by_cases h1:k<b
 ·have hp':p=decide (b≤n):=by
   subst hp
   by_cases h2:b≤n
   ·rw [decide_eq_true h2,inB_true];omega
   ·rw [decide_eq_false h2,inB_false];omega
  clear hp
  subst hp'
  go_enter Tryz.func108,Tryz.ntmps108
  go_wp2_with fail
  refine (operandsOf_7 a b _).mono ?_
  rintro e w1 ⟨rfl,hb1⟩
  have hb:Below w.heap.size w w1:=bel_trans (by go_grown) hb1
  clear hb1
  go_wp2
  go_ret
  exact ⟨rfl,hb⟩
 ·have hp':p=false:=by
   subst hp
   rw [inB_false];omega
  clear hp
  subst hp'
  go_enter Tryz.func108,Tryz.ntmps108
  go_wp2_with fail
  refine (operandsOf_7 a b _).mono ?_
  rintro e w1 ⟨rfl,hb1⟩
  have hb:Below w.heap.size w w1:=bel_trans (by go_grown) hb1
  clear hb1
  go_wp2
  go_ret
  exact ⟨rfl,hb⟩

theorem leadsOn_is (x:I3) (k n:Int) (w:World):Calls Tryz.prog 108 #[x.val,.int .i64 k,.int .i64 n] w fun e w'=>e=.returned (.bool (leads x k n))∧Below w.heap.size w w':=by
 obtain ⟨c,a,b⟩:=x
 unfold I3.val leads
 rcases op_cases (c,a,b) with h | h | h | h | h | h | h | h | h

 ·obtain rfl:c=1:=h
  simpa using leadsOn_1 a b k n w
 ·obtain rfl:c=2:=h
  simpa using leadsOn_2 a b k n w
 ·obtain rfl:c=3:=h
  simpa using leadsOn_3 a b k n w
 ·obtain rfl:c=4:=h
  simpa using leadsOn_4 a b k n w
 ·obtain rfl:c=5:=h
  simpa using leadsOn_5 a b k n w
 ·obtain rfl:c=6:=h
  simpa using leadsOn_6 a b k n w
 ·obtain rfl:c=7:=h
  simpa using leadsOn_7 a b k n w
 ·obtain rfl:c=8:=h
  simpa using leadsOn_8 a b k n w
 ·have h':=h
  obtain ⟨h1,h2,h3,h4,h5,h6,h7,h8⟩:=h
  simp only [] at h7
  rw [if_neg h7]
  exact leadsOn_0 c a b k n w h'


theorem cells_kept {w w':World} (h:Below w.heap.size w w'):∀ (p:Addr) (v:Value),w.cell? p=some v→w'.cell? p=some v:=by
 intro p v hv
 have hlt:p.block<w.heap.size:=by
  rcases Nat.lt_or_ge p.block w.heap.size with h' | h'
  ·exact h'
  ·simp [World.cell?,Array.getElem?_eq_none h'] at hv
 rw [h.cell hlt]
 exact hv


def okFrom (n:Nat):Nat→List I3→Bool
 | _,[]=>true
 | i,x::xs=>(okI x && leads x i n) && okFrom n (i+1) xs

def codeOk (xs:List I3):Bool:=decide (xs.length≤6) && okFrom xs.length 0 xs

theorem okFrom_step {n k:Nat} {xs:List I3} (hk:k<xs.length):okFrom n k (xs.drop k)=((okI (xs.getD k (0,0,0)) && leads (xs.getD k (0,0,0)) k n) && okFrom n (k+1) (xs.drop (k+1))):=by
 rw [List.drop_eq_getElem_cons hk]
 show ((okI (xs[k]) && leads (xs[k]) k n) && okFrom n (k+1) (xs.drop (k+1)))=_
 simp [List.getD,hk]

theorem codeOK_long (a:Option Addr) (len cap:Nat) (w:World) (hl:len≤maxLen) (hlen:6<len) :
  Calls Tryz.prog 71 #[.slice a len cap] w fun e w'=>e=.returned (.bool false)∧Below w.heap.size w w':=by
 unfold maxLen at hl
 go_enter Tryz.func71,Tryz.ntmps71
 go_wp2
 go_ret
 exact ⟨rfl,by go_grown⟩

theorem codeOK_short (a:Option Addr) (len cap:Nat) (xs:List I3) (w:World) (h:Instrs w a len cap xs) (hlen:len≤6) :
  Calls Tryz.prog 71 #[.slice a len cap] w fun e w'=>e=.returned (.bool (okFrom len 0 xs))∧Below w.heap.size w w':=by
 obtain ⟨fin,hfin⟩:∃ fin,fin=okFrom len 0 xs:=⟨_,rfl⟩
 rw [← hfin]
 have hfin':Hid (fin=okFrom len 0 (xs.drop 0)):=hfin
 clear hfin
 obtain ⟨hl,hlc,hcm,_,hcase⟩:=h
 unfold maxLen at hcm
 go_enter Tryz.func71,Tryz.ntmps71
 go_wp2
 go_loopw [10] (fun si wr=>∃ (k:Nat),k≤len∧si=.int .i64 k∧Hid (fin=okFrom len k (xs.drop k))∧Below w.heap.size w wr) (fun si _=>len - (intOf si).toNat)
 case atStart=>exact ⟨0,by omega,rfl,hfin',by go_grown⟩
 case round =>
  obtain ⟨k,hk,rfl,hH,hbel⟩:=hrel
  by_cases hlt:k<len
  ·rcases hcase with h0 | ⟨b,off,rfl,hblt,hcell⟩
   ·omega
   have hlt2:(k:Int)<(len:Int):=by omega
   obtain ⟨c0,c1,c2⟩:=hcell k hlt
   have hst:=okFrom_step (n:=len) (xs:=xs) (k:=k) (by omega)
   generalize xs.getD k (0,0,0)=x at c0 c1 c2 hst
   have hst':Hid (okFrom len k (xs.drop k)=((okI x && leads x k len) && okFrom len (k+1) (xs.drop (k+1)))):=hst
   clear hst hcell
   have d0:wr.cell? ⟨b,off+k*3,none⟩=some (.int .i64 x.1):=by rw [hbel.cell (p:=⟨b,_,none⟩) hblt];exact c0
   have d1:wr.cell? ⟨b,off+k*3+1,none⟩=some (.int .i64 x.2.1):=by rw [hbel.cell (p:=⟨b,_,none⟩) hblt];exact c1
   have d2:wr.cell? ⟨b,off+k*3+2,none⟩=some (.int .i64 x.2.2):=by rw [hbel.cell (p:=⟨b,_,none⟩) hblt];exact c2
   clear c0 c1 c2
   go_wp2_with fail
   refine (instrOK_is x _).mono ?_
   rintro e w1 ⟨rfl,hb1⟩
   have e0:w1.cell? ⟨wr.heap.size,0,none⟩=some (.int .i64 x.1):=by rw [hb1.cell (by simp)];simp [go_sem]
   have e1:w1.cell? ⟨wr.heap.size,1,none⟩=some (.int .i64 x.2.1):=by rw [hb1.cell (by simp)];simp [go_sem]
   have e2:w1.cell? ⟨wr.heap.size,2,none⟩=some (.int .i64 x.2.2):=by rw [hb1.cell (by simp)];simp [go_sem]
   have hb2:Below w.heap.size w w1:=bel_trans hbel (bel_trans (by go_grown) hb1)
   clear hb1 hbel d0 d1 d2
   cases hp:okI x
   ·have hff:fin=false:=by rw [hH.out,hst'.out,hp];rfl
    subst hff
    clear hH hst' hp
    go_wp2
    go_ret
    exact ⟨rfl,hb2⟩
   ·go_wp2_with fail
    refine (leadsOn_is x _ _ _).mono ?_
    rintro e w2 ⟨rfl,hb3⟩
    have hb4:=bel_trans hb2 hb3
    clear hb2 hb3 e0 e1 e2
    cases hq:leads x k len
    ·have hff:fin=false:=by rw [hH.out,hst'.out,hp,hq];rfl
     subst hff
     clear hH hst' hp hq
     go_wp2
     go_ret
     exact ⟨rfl,hb4⟩
    ·have hH':Hid (fin=okFrom len (k+1) (xs.drop (k+1))):=by rw [Hid,hH.out,hst'.out,hp,hq];rfl
     clear hH hst' hp hq
     go_wp2
     go_roundw
     case rel=>exact ⟨k+1,by omega,by go_num,hH',hb4⟩
     case measure=>simp [intOf];omega
  ·obtain rfl:k=len:=by omega
   have hd:okFrom k k (xs.drop k)=true:=by rw [List.drop_eq_nil_of_le (by omega)];rfl
   have hff:fin=true:=hH.out.trans hd
   subst hff
   clear hH hd hcase
   go_wp2
   go_ret
   exact ⟨rfl,hbel⟩

theorem codeOK_is (a:Option Addr) (len cap:Nat) (xs:List I3) (w:World) (h:Instrs w a len cap xs) :
  Calls Tryz.prog 71 #[.slice a len cap] w fun e w'=>e=.returned (.bool (codeOk xs))∧Below w.heap.size w w':=by
 unfold codeOk
 by_cases hlen:len≤6
 ·have:=codeOK_short a len cap xs w h hlen
  simpa [h.1,hlen] using this
 ·have:=codeOK_long a len cap w (Nat.le_trans h.2.1 h.2.2.1) (by omega)
  simpa [h.1,hlen] using this

def progOk (rows:List (List I3)):Bool:=decide (rows.length=3) && rows.all codeOk

theorem all_step {rows:List (List I3)} {k:Nat} (hk:k<rows.length):(rows.drop k).all codeOk=(codeOk (rows.getD k []) && (rows.drop (k+1)).all codeOk):=by
 rw [List.drop_eq_getElem_cons hk,List.all_cons]
 simp [List.getD,hk]

theorem implProgramOK_is (a:Option Addr) (len cap:Nat) (rows:List (List I3)) (w:World) (h:Codes w a len cap rows) :
  Calls Tryz.prog 37 #[.agg #[.slice a len cap]] w fun e w'=>e=.returned (.bool (progOk rows))∧Below w.heap.size w w':=by
 obtain ⟨fin,hfin⟩:∃ fin,fin=progOk rows:=⟨_,rfl⟩
 rw [← hfin]
 obtain ⟨hl,hlc,hcm,hcase⟩:=h
 unfold maxLen at hcm
 by_cases h3:len=3
 ·subst h3
  have hfin':Hid (fin=(rows.drop 0).all codeOk):=by rw [Hid,hfin,progOk,decide_eq_true hl];rfl
  clear hfin
  rcases hcase with h0 | ⟨b,off,rfl,hblt,hcell⟩
  ·omega
  go_enter Tryz.func37,Tryz.ntmps37
  go_wp2
  go_loopw [12] (fun si wr=>∃ (k:Nat),k≤3∧si=.int .i64 k∧Hid (fin=(rows.drop k).all codeOk)∧Below w.heap.size w wr) (fun si _=>3 - (intOf si).toNat)
  case atStart=>exact ⟨0,by omega,rfl,hfin',by go_grown⟩
  case round =>
   obtain ⟨k,hk,rfl,hH,hbel⟩:=hrel
   by_cases hlt:k<3
   ·have hlt2:(k:Int)<3:=by omega
    obtain ⟨a',len',cap',hc,hI⟩:=hcell k hlt
    have hst:=all_step (rows:=rows) (k:=k) (by omega)
    generalize rows.getD k []=xs at hI hst
    have hst':Hid ((rows.drop k).all codeOk=(codeOk xs && (rows.drop (k+1)).all codeOk)):=hst
    clear hst hcell
    have hc':wr.cell? ⟨b,off+k,none⟩=some (.slice a' len' cap'):=by rw [hbel.cell (p:=⟨b,_,none⟩) hblt];exact hc
    have hI':=hI.below hbel
    clear hc hI
    go_wp2_with fail
    refine (codeOK_is a' len' cap' xs _ (hI'.below (by go_grown))).mono ?_
    rintro e w1 ⟨rfl,hb1⟩
    have hb2:Below w.heap.size w w1:=bel_trans hbel (bel_trans (by go_grown) hb1)
    clear hb1 hbel hc' hI'
    cases hp:codeOk xs
    ·have hff:fin=false:=by rw [hH.out,hst'.out,hp];rfl
     subst hff
     clear hH hst' hp
     go_wp2
     go_ret
     exact ⟨rfl,hb2⟩
    ·have hH':Hid (fin=(rows.drop (k+1)).all codeOk):=by rw [Hid,hH.out,hst'.out,hp];rfl
     clear hH hst' hp
     go_wp2
     go_roundw
     case rel=>exact ⟨k+1,by omega,by go_num,hH',hb2⟩
     case measure=>simp [intOf];omega
   ·obtain rfl:k=3:=by omega
    have hd:(rows.drop 3).all codeOk=true:=by rw [List.drop_eq_nil_of_le (by omega)];rfl
    have hff:fin=true:=hH.out.trans hd
    subst hff
    clear hH hd hcell
    go_wp2
    go_ret
    exact ⟨rfl,hbel⟩
 ·have hff:fin=false:=by rw [hfin,progOk,decide_eq_false (by omega)];rfl
  subst hff
  clear hfin
  have h3':(len:Int)≠3:=by omega
  go_enter Tryz.func37,Tryz.ntmps37
  go_wp2
  go_ret
  exact ⟨rfl,by go_grown⟩


theorem l01In_is (n a b:Int) (w:World):Calls Tryz.prog 77 #[.int .i64 n,.int .i64 a,.int .i64 b] w fun e w'=>e=.returned (.bool (inB n a b))∧w=w':=by
 cases h:inB n a b
 ·exact l01In_no n a b w (inB_false.1 h)
 ·exact l01In_yes n a b w (inB_true.1 h)

theorem specOK_1 (a b:Int) (w:World):Calls Tryz.prog 76 #[.agg #[.int .i64 1,.int .i64 a,.int .i64 b]] w fun e w'=>e=.returned (.bool (inB a 0 1 && inB b 0 3))∧Below w.heap.size w w':=by
 have kA:=l01In_is a 0 1
 have kB:=l01In_is b 0 3
 generalize inB a 0 1=p at kA
 generalize inB b 0 3=q at kB
 go_enter Tryz.func76,Tryz.ntmps76
 go_wp2_with fail
 refine (kA _).mono ?_
 rintro e w1 ⟨rfl,rfl⟩
 cases p
 ·go_wp2_with fail
  go_ret
  exact ⟨rfl,by go_grown⟩
 ·go_wp2_with fail
  refine (kB _).mono ?_
  rintro e w1 ⟨rfl,rfl⟩
  go_wp2_with fail
  go_ret
  exact ⟨rfl,by go_grown⟩

theorem specOK_2 (a b:Int) (w:World):Calls Tryz.prog 76 #[.agg #[.int .i64 2,.int .i64 a,.int .i64 b]] w fun e w'=>e=.returned (.bool (inB a 0 3 && inB b 0 1))∧Below w.heap.size w w':=by
 have kA:=l01In_is a 0 3
 have kB:=l01In_is b 0 1
 generalize inB a 0 3=p at kA
 generalize inB b 0 1=q at kB
 go_enter Tryz.func76,Tryz.ntmps76
 go_wp2_with fail
 refine (kA _).mono ?_
 rintro e w1 ⟨rfl,rfl⟩
 cases p
 ·go_wp2_with fail
  go_ret
  exact ⟨rfl,by go_grown⟩
 ·go_wp2_with fail
  refine (kB _).mono ?_
  rintro e w1 ⟨rfl,rfl⟩
  go_wp2_with fail
  go_ret
  exact ⟨rfl,by go_grown⟩

theorem specOK_3 (a b:Int) (w:World):Calls Tryz.prog 76 #[.agg #[.int .i64 3,.int .i64 a,.int .i64 b]] w fun e w'=>e=.returned (.bool (inB a 0 1 && inB b 0 9))∧Below w.heap.size w w':=by
 have kA:=l01In_is a 0 1
 have kB:=l01In_is b 0 9
 generalize inB a 0 1=p at kA
 generalize inB b 0 9=q at kB
 go_enter Tryz.func76,Tryz.ntmps76
 go_wp2_with fail
 refine (kA _).mono ?_
 rintro e w1 ⟨rfl,rfl⟩
 cases p
 ·go_wp2_with fail
  go_ret
  exact ⟨rfl,by go_grown⟩
 ·go_wp2_with fail
  refine (kB _).mono ?_
  rintro e w1 ⟨rfl,rfl⟩
  go_wp2_with fail
  go_ret
  exact ⟨rfl,by go_grown⟩

theorem specOK_4 (a b:Int) (w:World):Calls Tryz.prog 76 #[.agg #[.int .i64 4,.int .i64 a,.int .i64 b]] w fun e w'=>e=.returned (.bool (inB a 0 1 && inB b 0 9))∧Below w.heap.size w w':=by
 have kA:=l01In_is a 0 1
 have kB:=l01In_is b 0 9
 generalize inB a 0 1=p at kA
 generalize inB b 0 9=q at kB
 go_enter Tryz.func76,Tryz.ntmps76
 go_wp2_with fail
 refine (kA _).mono ?_
 rintro e w1 ⟨rfl,rfl⟩
 cases p
 ·go_wp2_with fail
  go_ret
  exact ⟨rfl,by go_grown⟩
 ·go_wp2_with fail
  refine (kB _).mono ?_
  rintro e w1 ⟨rfl,rfl⟩
  go_wp2_with fail
  go_ret
  exact ⟨rfl,by go_grown⟩

theorem specOK_5 (a b:Int) (w:World):Calls Tryz.prog 76 #[.agg #[.int .i64 5,.int .i64 a,.int .i64 b]] w fun e w'=>e=.returned (.bool (inB a 0 1 && inB b 0 0))∧Below w.heap.size w w':=by
 have kA:=l01In_is a 0 1
 generalize inB a 0 1=p at kA
 have kB:(b == 0)=inB b 0 0:=by
  cases h:inB b 0 0
  ·rw [inB_false] at h
   simp;omega
  ·rw [inB_true] at h
   simp;omega
 rw [← kB]
 clear kB
 go_enter Tryz.func76,Tryz.ntmps76
 go_wp2_with fail
 refine (kA _).mono ?_
 rintro e w1 ⟨rfl,rfl⟩
 cases p
 ·go_wp2_with fail
  go_ret
  exact ⟨rfl,by go_grown⟩
 ·go_wp2_with fail
  go_ret
  exact ⟨by simp,by go_grown⟩

theorem specOK_6 (a b:Int) (w:World):Calls Tryz.prog 76 #[.agg #[.int .i64 6,.int .i64 a,.int .i64 b]] w fun e w'=>e=.returned (.bool (inB a 0 1 && inB b 0 0))∧Below w.heap.size w w':=by
 have kA:=l01In_is a 0 1
 generalize inB a 0 1=p at kA
 have kB:(b == 0)=inB b 0 0:=by
  cases h:inB b 0 0
  ·rw [inB_false] at h
   simp;omega
  ·rw [inB_true] at h
   simp;omega
 rw [← kB]
 clear kB
 go_enter Tryz.func76,Tryz.ntmps76
 go_wp2_with fail
 refine (kA _).mono ?_
 rintro e w1 ⟨rfl,rfl⟩
 cases p
 ·go_wp2_with fail
  go_ret
  exact ⟨rfl,by go_grown⟩
 ·go_wp2_with fail
  go_ret
  exact ⟨by simp,by go_grown⟩

theorem specOK_7 (a b:Int) (w:World):Calls Tryz.prog 76 #[.agg #[.int .i64 7,.int .i64 a,.int .i64 b]] w fun e w'=>e=.returned (.bool (inB a 0 1 && inB b 1 6))∧Below w.heap.size w w':=by
 have kA:=l01In_is a 0 1
 have kB:=l01In_is b 1 6
 generalize inB a 0 1=p at kA
 generalize inB b 1 6=q at kB
 go_enter Tryz.func76,Tryz.ntmps76
 go_wp2_with fail
 refine (kA _).mono ?_
 rintro e w1 ⟨rfl,rfl⟩
 cases p
 ·go_wp2_with fail
  go_ret
  exact ⟨rfl,by go_grown⟩
 ·go_wp2_with fail
  refine (kB _).mono ?_
  rintro e w1 ⟨rfl,rfl⟩
  go_wp2_with fail
  go_ret
  exact ⟨rfl,by go_grown⟩

theorem specOK_8 (a b:Int) (w:World):Calls Tryz.prog 76 #[.agg #[.int .i64 8,.int .i64 a,.int .i64 b]] w fun e w'=>e=.returned (.bool (inB a 0 1 && inB b 0 9))∧Below w.heap.size w w':=by
 have kA:=l01In_is a 0 1
 have kB:=l01In_is b 0 9
 generalize inB a 0 1=p at kA
 generalize inB b 0 9=q at kB
 go_enter Tryz.func76,Tryz.ntmps76
 go_wp2_with fail
 refine (kA _).mono ?_
 rintro e w1 ⟨rfl,rfl⟩
 cases p
 ·go_wp2_with fail
  go_ret
  exact ⟨rfl,by go_grown⟩
 ·go_wp2_with fail
  refine (kB _).mono ?_
  rintro e w1 ⟨rfl,rfl⟩
  go_wp2_with fail
  go_ret
  exact ⟨rfl,by go_grown⟩

theorem specOK_0 (c a b:Int) (w:World) (h:c≠1∧c≠2∧c≠3∧c≠4∧c≠5∧c≠6∧c≠7∧c≠8):Calls Tryz.prog 76 #[.agg #[.int .i64 c,.int .i64 a,.int .i64 b]] w fun e w'=>e=.returned (.bool false)∧Below w.heap.size w w':=by
 obtain ⟨h1,h2,h3,h4,h5,h6,h7,h8⟩:=h
 go_enter Tryz.func76,Tryz.ntmps76
 go_wp2
 go_ret
 exact ⟨rfl,by go_grown⟩

theorem specOK_is (x:I3) (w:World):Calls Tryz.prog 76 #[x.val] w fun e w'=>e=.returned (.bool (okI x))∧Below w.heap.size w w':=by
 obtain ⟨c,a,b⟩:=x
 unfold I3.val okI
 rcases op_cases (c,a,b) with h | h | h | h | h | h | h | h | h

 ·obtain rfl:c=1:=h
  simpa using specOK_1 a b w
 ·obtain rfl:c=2:=h
  simpa using specOK_2 a b w
 ·obtain rfl:c=3:=h
  simpa using specOK_3 a b w
 ·obtain rfl:c=4:=h
  simpa using specOK_4 a b w
 ·obtain rfl:c=5:=h
  simpa using specOK_5 a b w
 ·obtain rfl:c=6:=h
  simpa using specOK_6 a b w
 ·obtain rfl:c=7:=h
  simpa using specOK_7 a b w
 ·obtain rfl:c=8:=h
  simpa using specOK_8 a b w
 ·have h':=h
  obtain ⟨h1,h2,h3,h4,h5,h6,h7,h8⟩:=h
  simp only [] at h1 h2 h3 h4 h5 h6 h7 h8
  rw [if_neg h1,if_neg h2,if_neg (by simp;omega),if_neg (by simp;omega),if_neg h7]
  exact specOK_0 c a b w h'
end Go.Proofs.YtgmhhegckcionaaGreatDoor
