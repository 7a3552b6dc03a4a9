/-
  Joined: CodeI, InstrS, CodeS, Vm3.
-/
import Derived.Test.YtfpopbbmnbehiaaDoorB03
import Derived.Test.YtfpopbbmnbehiaaDoorB04

namespace Go.Proofs.YtfpopbbmnbehiaaDoor
set_option maxRecDepth 100000
set_option maxHeartbeats 16000000
open Go.RowKit

def okFrom (n:Nat):Nat→List I3→Bool
 | _,[]=>true
 | i,x::xs=>(okI x && leads x i n) && okFrom n (i+1) xs

def codeOk (xs:List I3):Bool:=decide (xs.length≤6) && okFrom xs.length 0 xs

theorem okFrom_step {n k:Nat} {xs:List I3} (hk:k<xs.length):okFrom n k (xs.drop k)=((okI (xs.getD k (0,0,0)) && leads (xs.getD k (0,0,0)) k n) && okFrom n (k+1) (xs.drop (k+1))):=by
 rw [List.drop_eq_getElem_cons hk]
 show ((okI (xs[k]) && leads (xs[k]) k n) && okFrom n (k+1) (xs.drop (k+1)))=_
 simp [List.getD,hk]

theorem codeOK_long (a:Option Addr) (len cap:Nat) (w:World) (hl:len≤maxLen) (hlen:6<len) :
  Calls Tryd.prog 86 #[.slice a len cap] w fun e w'=>e=.returned (.bool false)∧Below w.heap.size w w':=by
 unfold maxLen at hl
 go_enter Tryd.func86,Tryd.ntmps86
 go_wp2
 go_ret
 exact ⟨rfl,by go_grown⟩

theorem codeOK_short (a:Option Addr) (len cap:Nat) (xs:List I3) (w:World) (h:Instrs w a len cap xs) (hlen:len≤6) :
  Calls Tryd.prog 86 #[.slice a len cap] w fun e w'=>e=.returned (.bool (okFrom len 0 xs))∧Below w.heap.size w w':=by
 obtain ⟨fin,hfin⟩:∃ fin,fin=okFrom len 0 xs:=⟨_,rfl⟩
 rw [← hfin]
 have hfin':Hid (fin=okFrom len 0 (xs.drop 0)):=hfin
 clear hfin
 obtain ⟨hl,hlc,hcm,_,hcase⟩:=h
 unfold maxLen at hcm
 go_enter Tryd.func86,Tryd.ntmps86
 go_wp2
 go_loopw [10] (fun si wr=>∃ (k:Nat),k≤len∧si=.int .i64 k∧Hid (fin=okFrom len k (xs.drop k))∧Below w.heap.size w wr) (fun si _=>len - (intOf si).toNat)
 case atStart=>exact ⟨0,by omega,rfl,hfin',by go_grown⟩
 case round =>
  obtain ⟨k,hk,rfl,hH,hbel⟩:=hrel
  by_cases hlt:k<len
  ·rcases hcase with h0 | ⟨b,off,rfl,hblt,hcell⟩
   ·omega
   have hlt2:(k:Int)<(len:Int):=by omega
   obtain ⟨c0,c1,c2⟩:=hcell k hlt
   have hst:=okFrom_step (n:=len) (xs:=xs) (k:=k) (by omega)
   generalize xs.getD k (0,0,0)=x at c0 c1 c2 hst
   have hst':Hid (okFrom len k (xs.drop k)=((okI x && leads x k len) && okFrom len (k+1) (xs.drop (k+1)))):=hst
   clear hst hcell
   have d0:wr.cell? ⟨b,off+k*3,none⟩=some (.int .i64 x.1):=by rw [hbel.cell (p:=⟨b,_,none⟩) hblt];exact c0
   have d1:wr.cell? ⟨b,off+k*3+1,none⟩=some (.int .i64 x.2.1):=by rw [hbel.cell (p:=⟨b,_,none⟩) hblt];exact c1
   have d2:wr.cell? ⟨b,off+k*3+2,none⟩=some (.int .i64 x.2.2):=by rw [hbel.cell (p:=⟨b,_,none⟩) hblt];exact c2
   clear c0 c1 c2
   go_wp2_with fail
   refine (instrOK_is x _).mono ?_
   rintro e w1 ⟨rfl,hb1⟩
   have e0:w1.cell? ⟨wr.heap.size,0,none⟩=some (.int .i64 x.1):=by rw [hb1.cell (by simp)];simp [go_sem]
   have e1:w1.cell? ⟨wr.heap.size,1,none⟩=some (.int .i64 x.2.1):=by rw [hb1.cell (by simp)];simp [go_sem]
   have e2:w1.cell? ⟨wr.heap.size,2,none⟩=some (.int .i64 x.2.2):=by rw [hb1.cell (by simp)];simp [go_sem]
   have hb2:Below w.heap.size w w1:=bel_trans hbel (bel_trans (by go_grown) hb1)
   clear hb1 hbel d0 d1 d2
   cases hp:okI x
   ·have hff:fin=false:=by rw [hH.out,hst'.out,hp];rfl
    subst hff
    clear hH hst' hp
    go_wp2
    go_ret
    exact ⟨rfl,hb2⟩
   ·go_wp2_with fail
    refine (leadsOn_is x _ _ _).mono ?_
    rintro e w2 ⟨rfl,hb3⟩
    have hb4:=bel_trans hb2 hb3
    clear hb2 hb3 e0 e1 e2
    cases hq:leads x k len
    ·have hff:fin=false:=by rw [hH.out,hst'.out,hp,hq];rfl
     subst hff
     clear hH hst' hp hq
     go_wp2
     go_ret
     exact ⟨rfl,hb4⟩
    ·have hH':Hid (fin=okFrom len (k+1) (xs.drop (k+1))):=by rw [Hid,hH.out,hst'.out,hp,hq];rfl
     clear hH hst' hp hq
     go_wp2
     go_roundw
     case rel=>exact ⟨k+1,by omega,by go_num,hH',hb4⟩
     case measure=>simp [intOf];omega
  ·obtain rfl:k=len:=by omega
   have hd:okFrom k k (xs.drop k)=true:=by rw [List.drop_eq_nil_of_le (by omega)];rfl
   have hff:fin=true:=hH.out.trans hd
   subst hff
   clear hH hd hcase
   go_wp2
   go_ret
   exact ⟨rfl,hbel⟩

theorem codeOK_is (a:Option Addr) (len cap:Nat) (xs:List I3) (w:World) (h:Instrs w a len cap xs) :
  Calls Tryd.prog 86 #[.slice a len cap] w fun e w'=>e=.returned (.bool (codeOk xs))∧Below w.heap.size w w':=by
 unfold codeOk
 by_cases hlen:len≤6
 ·have:=codeOK_short a len cap xs w h hlen
  simpa [h.1,hlen] using this
 ·have:=codeOK_long a len cap w (Nat.le_trans h.2.1 h.2.2.1) (by omega)
  simpa [h.1,hlen] using this

def progOk (rows:List (List I3)):Bool:=decide (rows.length=3) && rows.all codeOk

theorem all_step {rows:List (List I3)} {k:Nat} (hk:k<rows.length):(rows.drop k).all codeOk=(codeOk (rows.getD k []) && (rows.drop (k+1)).all codeOk):=by
 rw [List.drop_eq_getElem_cons hk,List.all_cons]
 simp [List.getD,hk]

theorem implProgramOK_is (a:Option Addr) (len cap:Nat) (rows:List (List I3)) (w:World) (h:Codes w a len cap rows) :
  Calls Tryd.prog 79 #[.agg #[.slice a len cap]] w fun e w'=>e=.returned (.bool (progOk rows))∧Below w.heap.size w w':=by
 obtain ⟨fin,hfin⟩:∃ fin,fin=progOk rows:=⟨_,rfl⟩
 rw [← hfin]
 obtain ⟨hl,hlc,hcm,hcase⟩:=h
 unfold maxLen at hcm
 by_cases h3:len=3
 ·subst h3
  have hfin':Hid (fin=(rows.drop 0).all codeOk):=by rw [Hid,hfin,progOk,decide_eq_true hl];rfl
  clear hfin
  rcases hcase with h0 | ⟨b,off,rfl,hblt,hcell⟩
  ·omega
  go_enter Tryd.func79,Tryd.ntmps79
  go_wp2
  go_loopw [12] (fun si wr=>∃ (k:Nat),k≤3∧si=.int .i64 k∧Hid (fin=(rows.drop k).all codeOk)∧Below w.heap.size w wr) (fun si _=>3 - (intOf si).toNat)
  case atStart=>exact ⟨0,by omega,rfl,hfin',by go_grown⟩
  case round =>
   obtain ⟨k,hk,rfl,hH,hbel⟩:=hrel
   by_cases hlt:k<3
   ·have hlt2:(k:Int)<3:=by omega
    obtain ⟨a',len',cap',hc,hI⟩:=hcell k hlt
    have hst:=all_step (rows:=rows) (k:=k) (by omega)
    generalize rows.getD k []=xs at hI hst
    have hst':Hid ((rows.drop k).all codeOk=(codeOk xs && (rows.drop (k+1)).all codeOk)):=hst
    clear hst hcell
    have hc':wr.cell? ⟨b,off+k,none⟩=some (.slice a' len' cap'):=by rw [hbel.cell (p:=⟨b,_,none⟩) hblt];exact hc
    have hI':=hI.below hbel
    clear hc hI
    go_wp2_with fail
    refine (codeOK_is a' len' cap' xs _ (hI'.below (by go_grown))).mono ?_
    rintro e w1 ⟨rfl,hb1⟩
    have hb2:Below w.heap.size w w1:=bel_trans hbel (bel_trans (by go_grown) hb1)
    clear hb1 hbel hc' hI'
    cases hp:codeOk xs
    ·have hff:fin=false:=by rw [hH.out,hst'.out,hp];rfl
     subst hff
     clear hH hst' hp
     go_wp2
     go_ret
     exact ⟨rfl,hb2⟩
    ·have hH':Hid (fin=(rows.drop (k+1)).all codeOk):=by rw [Hid,hH.out,hst'.out,hp];rfl
     clear hH hst' hp
     go_wp2
     go_roundw
     case rel=>exact ⟨k+1,by omega,by go_num,hH',hb2⟩
     case measure=>simp [intOf];omega
   ·obtain rfl:k=3:=by omega
    have hd:(rows.drop 3).all codeOk=true:=by rw [List.drop_eq_nil_of_le (by omega)];rfl
    have hff:fin=true:=hH.out.trans hd
    subst hff
    clear hH hd hcell
    go_wp2
    go_ret
    exact ⟨rfl,hbel⟩
 ·have hff:fin=false:=by rw [hfin,progOk,decide_eq_false (by omega)];rfl
  subst hff
  clear hfin
  have h3':(len:Int)≠3:=by omega
  go_enter Tryd.func79,Tryd.ntmps79
  go_wp2
  go_ret
  exact ⟨rfl,by go_grown⟩


theorem l01In_is (n a b:Int) (w:World):Calls Tryd.prog 52 #[.int .i64 n,.int .i64 a,.int .i64 b] w fun e w'=>e=.returned (.bool (inB n a b))∧w=w':=by
 cases h:inB n a b
 ·exact l01In_no n a b w (inB_false.1 h)
 ·exact l01In_yes n a b w (inB_true.1 h)

theorem specOK_1 (a b:Int) (w:World):Calls Tryd.prog 51 #[.agg #[.int .i64 1,.int .i64 a,.int .i64 b]] w fun e w'=>e=.returned (.bool (inB a 0 1 && inB b 0 3))∧Below w.heap.size w w':=by
 have kA:=l01In_is a 0 1
 have kB:=l01In_is b 0 3
 generalize inB a 0 1=p at kA
 generalize inB b 0 3=q at kB
 go_enter Tryd.func51,Tryd.ntmps51
 go_wp2_with fail
 refine (kA _).mono ?_
 rintro e w1 ⟨rfl,rfl⟩
 cases p
 ·go_wp2_with fail
  go_ret
  exact ⟨rfl,by go_grown⟩
 ·go_wp2_with fail
  refine (kB _).mono ?_
  rintro e w1 ⟨rfl,rfl⟩
  go_wp2_with fail
  go_ret
  exact ⟨rfl,by go_grown⟩

theorem specOK_2 (a b:Int) (w:World):Calls Tryd.prog 51 #[.agg #[.int .i64 2,.int .i64 a,.int .i64 b]] w fun e w'=>e=.returned (.bool (inB a 0 3 && inB b 0 1))∧Below w.heap.size w w':=by
 have kA:=l01In_is a 0 3
 have kB:=l01In_is b 0 1
 generalize inB a 0 3=p at kA
 generalize inB b 0 1=q at kB
 go_enter Tryd.func51,Tryd.ntmps51
 go_wp2_with fail
 refine (kA _).mono ?_
 rintro e w1 ⟨rfl,rfl⟩
 cases p
 ·go_wp2_with fail
  go_ret
  exact ⟨rfl,by go_grown⟩
 ·go_wp2_with fail
  refine (kB _).mono ?_
  rintro e w1 ⟨rfl,rfl⟩
  go_wp2_with fail
  go_ret
  exact ⟨rfl,by go_grown⟩

theorem specOK_3 (a b:Int) (w:World):Calls Tryd.prog 51 #[.agg #[.int .i64 3,.int .i64 a,.int .i64 b]] w fun e w'=>e=.returned (.bool (inB a 0 1 && inB b 0 9))∧Below w.heap.size w w':=by
 have kA:=l01In_is a 0 1
 have kB:=l01In_is b 0 9
 generalize inB a 0 1=p at kA
 generalize inB b 0 9=q at kB
 go_enter Tryd.func51,Tryd.ntmps51
 go_wp2_with fail
 refine (kA _).mono ?_
 rintro e w1 ⟨rfl,rfl⟩
 cases p
 ·go_wp2_with fail
  go_ret
  exact ⟨rfl,by go_grown⟩
 ·go_wp2_with fail
  refine (kB _).mono ?_
  rintro e w1 ⟨rfl,rfl⟩
  go_wp2_with fail
  go_ret
  exact ⟨rfl,by go_grown⟩

theorem specOK_4 (a b:Int) (w:World):Calls Tryd.prog 51 #[.agg #[.int .i64 4,.int .i64 a,.int .i64 b]] w fun e w'=>e=.returned (.bool (inB a 0 1 && inB b 0 9))∧Below w.heap.size w w':=by
 have kA:=l01In_is a 0 1
 have kB:=l01In_is b 0 9
 generalize inB a 0 1=p at kA
 generalize inB b 0 9=q at kB
 go_enter Tryd.func51,Tryd.ntmps51
 go_wp2_with fail
 refine (kA _).mono ?_
 rintro e w1 ⟨rfl,rfl⟩
 cases p
 ·go_wp2_with fail
  go_ret
  exact ⟨rfl,by go_grown⟩
 ·go_wp2_with fail
  refine (kB _).mono ?_
  rintro e w1 ⟨rfl,rfl⟩
  go_wp2_with fail
  go_ret
  exact ⟨rfl,by go_grown⟩

theorem specOK_5 (a b:Int) (w:World):Calls Tryd.prog 51 #[.agg #[.int .i64 5,.int .i64 a,.int .i64 b]] w fun e w'=>e=.returned (.bool (inB a 0 1 && inB b 0 0))∧Below w.heap.size w w':=by
 have kA:=l01In_is a 0 1
 generalize inB a 0 1=p at kA
 have kB:(b == 0)=inB b 0 0:=by
  cases h:inB b 0 0
  ·rw [inB_false] at h
   simp;omega
  ·rw [inB_true] at h
   simp;omega
 rw [← kB]
 clear kB
 go_enter Tryd.func51,Tryd.ntmps51
 go_wp2_with fail
 refine (kA _).mono ?_
 rintro e w1 ⟨rfl,rfl⟩
 cases p
 ·go_wp2_with fail
  go_ret
  exact ⟨rfl,by go_grown⟩
 ·go_wp2_with fail
  go_ret
  exact ⟨by simp,by go_grown⟩

theorem specOK_6 (a b:Int) (w:World):Calls Tryd.prog 51 #[.agg #[.int .i64 6,.int .i64 a,.int .i64 b]] w fun e w'=>e=.returned (.bool (inB a 0 1 && inB b 0 0))∧Below w.heap.size w w':=by
 have kA:=l01In_is a 0 1
 generalize inB a 0 1=p at kA
 have kB:(b == 0)=inB b 0 0:=by
  cases h:inB b 0 0
  ·rw [inB_false] at h
   simp;omega
  ·rw [inB_true] at h
   simp;omega
 rw [← kB]
 clear kB
 go_enter Tryd.func51,Tryd.ntmps51
 go_wp2_with fail
 refine (kA _).mono ?_
 rintro e w1 ⟨rfl,rfl⟩
 cases p
 ·go_wp2_with fail
  go_ret
  exact ⟨rfl,by go_grown⟩
 ·go_wp2_with fail
  go_ret
  exact ⟨by simp,by go_grown⟩

theorem specOK_7 (a b:Int) (w:World):Calls Tryd.prog 51 #[.agg #[.int .i64 7,.int .i64 a,.int .i64 b]] w fun e w'=>e=.returned (.bool (inB a 0 1 && inB b 1 6))∧Below w.heap.size w w':=by
 have kA:=l01In_is a 0 1
 have kB:=l01In_is b 1 6
 generalize inB a 0 1=p at kA
 generalize inB b 1 6=q at kB
 go_enter Tryd.func51,Tryd.ntmps51
 go_wp2_with fail
 refine (kA _).mono ?_
 rintro e w1 ⟨rfl,rfl⟩
 cases p
 ·go_wp2_with fail
  go_ret
  exact ⟨rfl,by go_grown⟩
 ·go_wp2_with fail
  refine (kB _).mono ?_
  rintro e w1 ⟨rfl,rfl⟩
  go_wp2_with fail
  go_ret
  exact ⟨rfl,by go_grown⟩

theorem specOK_8 (a b:Int) (w:World):Calls Tryd.prog 51 #[.agg #[.int .i64 8,.int .i64 a,.int .i64 b]] w fun e w'=>e=.returned (.bool (inB a 0 1 && inB b 0 9))∧Below w.heap.size w w':=by
 have kA:=l01In_is a 0 1
 have kB:=l01In_is b 0 9
 generalize inB a 0 1=p at kA
 generalize inB b 0 9=q at kB
 go_enter Tryd.func51,Tryd.ntmps51
 go_wp2_with fail
 refine (kA _).mono ?_
 rintro e w1 ⟨rfl,rfl⟩
 cases p
 ·go_wp2_with fail
  go_ret
  exact ⟨rfl,by go_grown⟩
 ·go_wp2_with fail
  refine (kB _).mono ?_
  rintro e w1 ⟨rfl,rfl⟩
  go_wp2_with fail
  go_ret
  exact ⟨rfl,by go_grown⟩

theorem specOK_0 (c a b:Int) (w:World) (h:c≠1∧c≠2∧c≠3∧c≠4∧c≠5∧c≠6∧c≠7∧c≠8):Calls Tryd.prog 51 #[.agg #[.int .i64 c,.int .i64 a,.int .i64 b]] w fun e w'=>e=.returned (.bool false)∧Below w.heap.size w w':=by
 obtain ⟨h1,h2,h3,h4,h5,h6,h7,h8⟩:=h
 go_enter Tryd.func51,Tryd.ntmps51
 go_wp2
 go_ret
 exact ⟨rfl,by go_grown⟩

theorem specOK_is (x:I3) (w:World):Calls Tryd.prog 51 #[x.val] w fun e w'=>e=.returned (.bool (okI x))∧Below w.heap.size w w':=by
 obtain ⟨c,a,b⟩:=x
 unfold I3.val okI
 rcases op_cases (c,a,b) with h | h | h | h | h | h | h | h | h

 ·obtain rfl:c=1:=h
  simpa using specOK_1 a b w
 ·obtain rfl:c=2:=h
  simpa using specOK_2 a b w
 ·obtain rfl:c=3:=h
  simpa using specOK_3 a b w
 ·obtain rfl:c=4:=h
  simpa using specOK_4 a b w
 ·obtain rfl:c=5:=h
  simpa using specOK_5 a b w
 ·obtain rfl:c=6:=h
  simpa using specOK_6 a b w
 ·obtain rfl:c=7:=h
  simpa using specOK_7 a b w
 ·obtain rfl:c=8:=h
  simpa using specOK_8 a b w
 ·have h':=h
  obtain ⟨h1,h2,h3,h4,h5,h6,h7,h8⟩:=h
  simp only [] at h1 h2 h3 h4 h5 h6 h7 h8
  rw [if_neg h1,if_neg h2,if_neg (by simp;omega),if_neg (by simp;omega),if_neg h7]
  exact specOK_0 c a b w h'


theorem specProgramOK_is (a:Option Addr) (len cap:Nat) (rows:List (List I3)) (w:World) (h:Codes w a len cap rows) :
  Calls Tryd.prog 27 #[.agg #[.slice a len cap]] w fun e w'=>e=.returned (.bool (progOk rows))∧Below w.heap.size w w':=by
 obtain ⟨fin,hfin⟩:∃ fin,fin=progOk rows:=⟨_,rfl⟩
 rw [← hfin]
 obtain ⟨hl,hlc,hcm,hcase⟩:=h
 unfold maxLen at hcm
 by_cases h3:len=3
 ·subst h3
  have hfin':Hid (fin=(rows.drop 0).all codeOk):=by rw [Hid,hfin,progOk,decide_eq_true hl];rfl
  clear hfin
  rcases hcase with h0 | ⟨b,off,rfl,hblt,hcell⟩
  ·omega
  go_enter Tryd.func27,Tryd.ntmps27
  go_wp2
  go_loopw [3] (fun si wr=>∃ (k:Nat),k≤3∧si=.int .i64 k∧Hid (fin=(rows.drop k).all codeOk)∧wr.cell? ⟨w.heap.size,0,none⟩=some (.slice (some ⟨b,off,none⟩) 3 cap)∧Below w.heap.size w wr) (fun si _=>3 - (intOf si).toNat)
  case atStart=>exact ⟨0,by omega,rfl,hfin',by simp [go_sem],by go_grown⟩
  case round =>
   obtain ⟨k,hk,rfl,hH,hP,hbel⟩:=hrel
   by_cases hlt:k<3
   ·have hlt2:(k:Int)<3:=by omega
    obtain ⟨a',len',cap',hc,hI⟩:=hcell k hlt
    have hst:=all_step (rows:=rows) (k:=k) (by omega)
    generalize rows.getD k []=xs at hI hst
    have hst':Hid ((rows.drop k).all codeOk=(codeOk xs && (rows.drop (k+1)).all codeOk)):=hst
    clear hst hcell
    have hc':wr.cell? ⟨b,off+k,none⟩=some (.slice a' len' cap'):=by rw [hbel.cell (p:=⟨b,_,none⟩) hblt];exact hc
    obtain ⟨hl',hlc',hcm',_,hcase'⟩:=hI
    unfold maxLen at hcm'
    by_cases h6:len'≤6
    ·obtain ⟨p,hp⟩:∃ p,p=codeOk xs:=⟨_,rfl⟩
     rw [← hp] at hst'
     have hp':Hid (p=okFrom len' 0 (xs.drop 0)):=by rw [Hid,hp,codeOk,hl',decide_eq_true h6];rfl
     clear hp
     go_wp2
     go_loopw [4] (fun si wi=>∃ (i:Nat),i≤len'∧si=.int .i64 i∧Hid (p=okFrom len' i (xs.drop i))∧wi.cell? ⟨w.heap.size,0,none⟩=some (.slice (some ⟨b,off,none⟩) 3 cap)∧Below w.heap.size w wi) (fun si _=>len' - (intOf si).toNat)
     case atStart=>exact ⟨0,by omega,rfl,hp',hP,hbel⟩
     case round =>
      clear hP hbel hc'
      obtain ⟨i,hi,rfl,hHi,hP,hbel⟩:=hrel
      have hc':wr.cell? ⟨b,off+k,none⟩=some (.slice a' len' cap'):=by rw [hbel.cell (p:=⟨b,_,none⟩) hblt];exact hc
      by_cases hil:i<len'
      ·have hil2:(i:Int)<(len':Int):=by omega
       rcases hcase' with h0 | ⟨b',off',rfl,hblt',hcell'⟩
       ·omega
       obtain ⟨c0,c1,c2⟩:=hcell' i hil
       have hsi:=okFrom_step (n:=len') (xs:=xs) (k:=i) (by omega)
       generalize xs.getD i (0,0,0)=x at c0 c1 c2 hsi
       have hsi':Hid (okFrom len' i (xs.drop i)=((okI x && leads x i len') && okFrom len' (i+1) (xs.drop (i+1)))):=hsi
       clear hsi hcell'
       have d0:wr.cell? ⟨b',off'+i*3,none⟩=some (.int .i64 x.1):=by rw [hbel.cell (p:=⟨b',_,none⟩) hblt'];exact c0
       have d1:wr.cell? ⟨b',off'+i*3+1,none⟩=some (.int .i64 x.2.1):=by rw [hbel.cell (p:=⟨b',_,none⟩) hblt'];exact c1
       have d2:wr.cell? ⟨b',off'+i*3+2,none⟩=some (.int .i64 x.2.2):=by rw [hbel.cell (p:=⟨b',_,none⟩) hblt'];exact c2
       clear c0 c1 c2
       go_wp2_with fail
       have e0:(wr.alloc (.cells #[.int .i64 x.1,.int .i64 x.2.1,.int .i64 x.2.2] 103)).cell? ⟨wr.heap.size,0,none⟩=some (.int .i64 x.1):=by simp [go_sem]
       have e1:(wr.alloc (.cells #[.int .i64 x.1,.int .i64 x.2.1,.int .i64 x.2.2] 103)).cell? ⟨wr.heap.size,1,none⟩=some (.int .i64 x.2.1):=by simp [go_sem]
       have e2:(wr.alloc (.cells #[.int .i64 x.1,.int .i64 x.2.1,.int .i64 x.2.2] 103)).cell? ⟨wr.heap.size,2,none⟩=some (.int .i64 x.2.2):=by simp [go_sem]
       have hP0:(wr.alloc (.cells #[.int .i64 x.1,.int .i64 x.2.1,.int .i64 x.2.2] 103)).cell? ⟨w.heap.size,0,none⟩=some (.slice (some ⟨b,off,none⟩) 3 cap):=cells_kept (by go_grown) _ _ hP
       have hc0:(wr.alloc (.cells #[.int .i64 x.1,.int .i64 x.2.1,.int .i64 x.2.2] 103)).cell? ⟨b,off+k,none⟩=some (.slice (some ⟨b',off',none⟩) len' cap'):=cells_kept (by go_grown) _ _ hc'
       have hbel0:Below w.heap.size w (wr.alloc (.cells #[.int .i64 x.1,.int .i64 x.2.1,.int .i64 x.2.2] 103)):=bel_trans hbel (by go_grown)
       clear hP hc' hbel d0 d1 d2
       generalize wr.alloc (.cells #[.int .i64 x.1,.int .i64 x.2.1,.int .i64 x.2.2] 103)=w0 at e0 e1 e2 hP0 hc0 hbel0
       generalize wr.heap.size=X at e0 e1 e2
       obtain ⟨x0,x1,x2⟩:=x
       have hk0:(0:Int)≤(k:Int):=by omega
       have hi1:IntKind.i64.wrap ((i:Int)+1)=(i:Int)+1:=IntWalk.i64_in _ ⟨by omega,by omega⟩
       have kI:=specOK_is (x0,x1,x2)
       have kL:=l01In_is x2 ((i:Int)+1) len'
       unfold I3.val at kI
       simp only [] at e0 e1 e2 kI
       cases hq:okI (x0,x1,x2)
       ·rw [hq] at kI
        have hff:fin=false:=by rw [hH.out,hst'.out,hHi.out,hsi'.out,hq];rfl
        subst hff
        clear hH hst' hHi hsi' hq
        refine wp_region_held_drew (S:=(fun w'=>w'.cell? ⟨X,0,none⟩=some (.int .i64 x0)∧w'.cell? ⟨X,1,none⟩=some (.int .i64 x1)∧w'.cell? ⟨X,2,none⟩=some (.int .i64 x2)∧w'.cell? ⟨w.heap.size,0,none⟩=some (.slice (some ⟨b,off,none⟩) 3 cap)∧w'.cell? ⟨b,off+k,none⟩=some (.slice (some ⟨b',off',none⟩) len' cap'))) (by kernel_rfl) ⟨e0,e1,e2,hP0,hc0⟩ (fun hHeld=>?_)
        refine tkm 0 39 (.agg #[.int .i64 x0,.int .i64 x1,.int .i64 x2]) ?_
        refine tkr 1 40 (fun K hK=>?_)
        go_simp
        refine (kI _).mono ?_
        rintro e w1 ⟨rfl,hb1⟩
        go_wp2_with fail
        refine hK.out _ _ ?_ (fun hHeld1=>?_)
        ·exact ⟨cells_kept hb1 _ _ hHeld.1,cells_kept hb1 _ _ hHeld.2.1,cells_kept hb1 _ _ hHeld.2.2.1,cells_kept hb1 _ _ hHeld.2.2.2.1,cells_kept hb1 _ _ hHeld.2.2.2.2⟩
        clear hK hHeld
        refine tkm 2 41 (.bool true) ?_
        refine tkm 3 42 (.bool true) ?_
        refine tku 4 43 ?_
        refine tku 5 44 ?_
        refine tku 6 45 ?_
        refine tku 7 46 ?_
        refine tku 8 47 ?_
        refine tku 9 48 ?_
        refine tku 10 49 ?_
        refine tku 11 50 ?_
        refine tku 12 51 ?_
        refine tku 13 52 ?_
        refine tku 14 53 ?_
        refine tku 15 54 ?_
        refine tku 16 55 ?_
        refine tku 17 56 ?_
        refine tku 18 57 ?_
        refine tku 19 58 ?_
        refine tku 20 59 ?_
        refine tkm 21 60 (.bool true) ?_
        refine wpAnyH_done (by kernel_rfl) ?_ _
        have hb2:Below w.heap.size w w1:=bel_trans hbel0 (bel_trans (by go_grown) hb1)
        go_wp2
        go_ret
        exact ⟨rfl,hb2⟩
       ·rw [hq] at kI
        by_cases h7:x0=7
        ·subst h7
         have hle:leads (7,x1,x2) i len'=inB x2 ((i:Int)+1) len':=rfl
         cases hr:inB x2 ((i:Int)+1) len'
         ·rw [hr] at kL
          have hff:fin=false:=by rw [hH.out,hst'.out,hHi.out,hsi'.out,hq,hle,hr];rfl
          subst hff
          clear hH hst' hHi hsi' hq hle hr
          go_region_held3 (fun w'=>w'.cell? ⟨X,0,none⟩=some (.int .i64 7)∧w'.cell? ⟨X,1,none⟩=some (.int .i64 x1)∧w'.cell? ⟨X,2,none⟩=some (.int .i64 x2)∧w'.cell? ⟨w.heap.size,0,none⟩=some (.slice (some ⟨b,off,none⟩) 3 cap)∧w'.cell? ⟨b,off+k,none⟩=some (.slice (some ⟨b',off',none⟩) len' cap')) (first | (exact ⟨e0,e1,e2,hP0,hc0⟩) | (refine ⟨?_,?_,?_,?_,?_⟩<;>(apply cells_kept (by assumption);assumption)) | go_keep)
           (first | (go_at_call 51;refine (kI _).mono ?_;rintro e w1 ⟨rfl,hb1⟩) | (go_at_call 52;refine (kL _).mono ?_;rintro e w2 ⟨rfl,rfl⟩))
          have hb2:Below w.heap.size w w1:=bel_trans hbel0 (bel_trans (by go_grown) hb1)
          go_wp2
          go_ret
          exact ⟨rfl,hb2⟩
         ·rw [hr] at kL
          have hHi':Hid (p=okFrom len' (i+1) (xs.drop (i+1))):=by rw [Hid,hHi.out,hsi'.out,hq,hle,hr];rfl
          clear hHi hsi' hq hle hr
          go_region_held3 (fun w'=>w'.cell? ⟨X,0,none⟩=some (.int .i64 7)∧w'.cell? ⟨X,1,none⟩=some (.int .i64 x1)∧w'.cell? ⟨X,2,none⟩=some (.int .i64 x2)∧w'.cell? ⟨w.heap.size,0,none⟩=some (.slice (some ⟨b,off,none⟩) 3 cap)∧w'.cell? ⟨b,off+k,none⟩=some (.slice (some ⟨b',off',none⟩) len' cap')) (first | (exact ⟨e0,e1,e2,hP0,hc0⟩) | (refine ⟨?_,?_,?_,?_,?_⟩<;>(apply cells_kept (by assumption);assumption)) | go_keep)
           (first | (go_at_call 51;refine (kI _).mono ?_;rintro e w1 ⟨rfl,hb1⟩) | (go_at_call 52;refine (kL _).mono ?_;rintro e w2 ⟨rfl,rfl⟩))
          have hb2:Below w.heap.size w w1:=bel_trans hbel0 (bel_trans (by go_grown) hb1)
          have hP1:w1.cell? ⟨w.heap.size,0,none⟩=some (.slice (some ⟨b,off,none⟩) 3 cap):=cells_kept (bel_trans (by go_grown) hb1) _ _ hP0
          go_wp2
          go_roundw
          case rel=>exact ⟨i+1,by omega,by go_num,hHi',hP1,hb2⟩
          case measure=>simp [intOf];omega
        ·have h7':(x0 == 7)=false:=by simpa using h7
         have hle:leads (x0,x1,x2) i len'=true:=if_neg h7
         have hHi':Hid (p=okFrom len' (i+1) (xs.drop (i+1))):=by rw [Hid,hHi.out,hsi'.out,hq,hle];rfl
         clear hHi hsi' hq hle
         refine wp_region_held_drew (S:=(fun w'=>w'.cell? ⟨X,0,none⟩=some (.int .i64 x0)∧w'.cell? ⟨X,1,none⟩=some (.int .i64 x1)∧w'.cell? ⟨X,2,none⟩=some (.int .i64 x2)∧w'.cell? ⟨w.heap.size,0,none⟩=some (.slice (some ⟨b,off,none⟩) 3 cap)∧w'.cell? ⟨b,off+k,none⟩=some (.slice (some ⟨b',off',none⟩) len' cap'))) (by kernel_rfl) ⟨e0,e1,e2,hP0,hc0⟩ (fun hHeld=>?_)
         refine tkm 0 39 (.agg #[.int .i64 x0,.int .i64 x1,.int .i64 x2]) ?_
         refine tkr 1 40 (fun K hK=>?_)
         go_simp
         refine (kI _).mono ?_
         rintro e w1 ⟨rfl,hb1⟩
         go_wp2_with fail
         refine hK.out _ _ ?_ (fun hHeld1=>?_)
         ·exact ⟨cells_kept hb1 _ _ hHeld.1,cells_kept hb1 _ _ hHeld.2.1,cells_kept hb1 _ _ hHeld.2.2.1,cells_kept hb1 _ _ hHeld.2.2.2.1,cells_kept hb1 _ _ hHeld.2.2.2.2⟩
         clear hK hHeld
         refine tkm 2 41 (.bool false) ?_
         refine tkm 3 42 (.bool false) ?_
         refine tkm 4 43 (.pointer (some ⟨X,0,none⟩)) ?_
         refine tkm 5 44 (.int .i64 x0) ?_
         refine tkm 6 45 (.bool false) ?_
         refine tkm 7 46 (.bool false) ?_
         refine tku 8 47 ?_
         refine tku 9 48 ?_
         refine tku 10 49 ?_
         refine tku 11 50 ?_
         refine tku 12 51 ?_
         refine tku 13 52 ?_
         refine tku 14 53 ?_
         refine tku 15 54 ?_
         refine tku 16 55 ?_
         refine tku 17 56 ?_
         refine tku 18 57 ?_
         refine tku 19 58 ?_
         refine tkm 20 59 (.bool false) ?_
         refine tkm 21 60 (.bool false) ?_
         refine wpAnyH_done (by kernel_rfl) ?_ _
         have hb2:Below w.heap.size w w1:=bel_trans hbel0 (bel_trans (by go_grown) hb1)
         have hP1:w1.cell? ⟨w.heap.size,0,none⟩=some (.slice (some ⟨b,off,none⟩) 3 cap):=cells_kept (bel_trans (by go_grown) hb1) _ _ hP0
         go_wp2
         go_roundw
         case rel=>exact ⟨i+1,by omega,by go_num,hHi',hP1,hb2⟩
         case measure=>simp [intOf];omega
      ·obtain rfl:i=len':=by omega
       have hd:okFrom i i (xs.drop i)=true:=by rw [List.drop_eq_nil_of_le (by omega)];rfl
       have hff:p=true:=hHi.out.trans hd
       subst hff
       have hH':Hid (fin=(rows.drop (k+1)).all codeOk):=by rw [Hid,hH.out,hst'.out];rfl
       clear hH hst' hHi hd hcase'
       go_wp2
       go_roundw
       case rel=>exact ⟨k+1,by omega,by go_num,hH',hP,hbel⟩
       case measure=>simp [intOf];omega
    ·have hff:fin=false:=by rw [hH.out,hst'.out,codeOk,decide_eq_false (by omega)];rfl
     subst hff
     clear hH hst'
     go_wp2
     go_ret
     exact ⟨rfl,hbel⟩
   ·obtain rfl:k=3:=by omega
    have hd:(rows.drop 3).all codeOk=true:=by rw [List.drop_eq_nil_of_le (by omega)];rfl
    have hff:fin=true:=hH.out.trans hd
    subst hff
    clear hH hd hcell
    go_wp2
    go_ret
    exact ⟨rfl,hbel⟩
 ·have hff:fin=false:=by rw [hfin,progOk,decide_eq_false (by omega)];rfl
  subst hff
  clear hfin
  have h3':(len:Int)≠3:=by omega
  go_enter Tryd.func27,Tryd.ntmps27
  go_wp2
  go_ret
  exact ⟨rfl,by go_grown⟩


def allIn (zs:List Int) (n high:Int):Bool:=zs.all (fun z=>decide (0≤z∧z≤high)) && decide ((zs.length:Int)=n)
def shapeOk (m:V4):Bool:=allIn m.1 3 6 && (allIn m.2.1 4 9 && (allIn m.2.2.1 2 3 && allIn m.2.2.2 6 9))
theorem allIn_no {zs:List Int} {n high:Int} {k:Nat} (hk:k<zs.length) (h:¬ (0≤zs.getD k 0∧zs.getD k 0≤high)):allIn zs n high=false:=by
 unfold allIn
 have:zs.all (fun z=>decide (0≤z∧z≤high))=false:=by
  rw [List.all_eq_false]
  refine ⟨zs.getD k 0,by simp [List.getD,hk],?_⟩
  simpa using h
 rw [this];rfl
theorem allIn_end {zs:List Int} {n high:Int} (h:∀ i,i<zs.length→0≤zs.getD i 0∧zs.getD i 0≤high):allIn zs n high=decide ((zs.length:Int)=n):=by
 unfold allIn
 have:zs.all (fun z=>decide (0≤z∧z≤high))=true:=by
  rw [List.all_eq_true]
  intro z hz
  obtain ⟨i,hi,rfl⟩:=List.getElem_of_mem hz
  have:=h i hi
  simpa [List.getD,hi] using this
 rw [this];rfl

theorem l03All_is (a:Option Addr) (len cap:Nat) (zs:List Int) (n high:Int) (w:World) (h:Ints .i64 w a len cap zs) :
  Calls Tryd.prog 76 #[.slice a len cap,.int .i64 n,.int .i64 high] w fun e w'=>e=.returned (.bool (allIn zs n high))∧w=w':=by
 obtain ⟨hl,hlc,hcm,hcase⟩:=h
 unfold maxLen at hcm
 obtain ⟨fin,hfin⟩:∃ fin,fin=allIn zs n high:=⟨_,rfl⟩
 rw [← hfin]
 have HF:Hid (fin=allIn zs n high):=hfin
 clear hfin
 have hend:∀ b:Bool,b=decide ((len:Int)=n)→Hid (∀ i,i<zs.length→0≤zs.getD i 0∧zs.getD i 0≤high)→fin=b:=fun b hb h=>by rw [HF.out,allIn_end h.out,hb,hl]
 obtain ⟨b,hb⟩:∃ b,b=decide ((len:Int)=n):=⟨_,rfl⟩
 have he:=hend b hb
 have hb2:((len:Int) == n)=b:=by rw [hb];by_cases h:(len:Int)=n<;>simp [h]
 clear hend hb
 have HE:Hid (Hid (∀ i,i<zs.length→0≤zs.getD i 0∧zs.getD i 0≤high)→fin=b):=he
 clear he
 by_cases h0:len=0
 ·subst h0
  obtain rfl:fin=b:=HE.out (fun i hi=>by omega)
  clear HE HF
  go_enter Tryd.func76,Tryd.ntmps76
  go_wp2
  refine wp_loop_rounds 1 ?_
  rw [rounds_succ]
  simp only [Int.natCast_zero] at hb2
  go_wp2
  go_ret
  exact ⟨rfl,rfl⟩
 ·rcases hcase with h0' | ⟨bk,off,rfl,hblt,hcell⟩
  ·exact absurd h0' h0
  go_enter Tryd.func76,Tryd.ntmps76
  go_wp2
  go_loopw [7] (fun si wr=>∃ k:Nat,k≤len∧si=.int .i64 k∧Hid (∀ i,i<k→0≤zs.getD i 0∧zs.getD i 0≤high)∧w=wr) (fun si _=>len - (intOf si).toNat)
  case atStart=>exact ⟨0,by omega,rfl,(fun i hi=>by omega),rfl⟩
  case round =>
   obtain ⟨k,hk,rfl,HK,rfl⟩:=hrel
   by_cases hlt:k<len
   ·have hc:=hcell k hlt
    have hlt':(k:Int)<(len:Int):=by omega
    by_cases hin:0≤zs.getD k 0∧zs.getD k 0≤high
    ·have HK2:Hid (∀ i,i<k+1→0≤zs.getD i 0∧zs.getD i 0≤high):=fun i hi=>by
      by_cases e:i=k
      ·subst e;exact hin
      ·exact HK.out i (by omega)
     have kI:=fun w=>l01In_yes (zs.getD k 0) 0 high w hin
     clear hcell hin
     generalize zs.getD k 0=x at hc kI
     go_wp2_with fail
     refine (kI _).mono ?_
     rintro e w1 ⟨rfl,rfl⟩
     go_wp2
     go_roundw
     case rel=>exact ⟨k+1,by omega,by go_num,HK2,by trivial⟩
     case measure=>simp [intOf];omega
    ·obtain rfl:fin=false:=by rw [HF.out];exact allIn_no (by omega) hin
     have kI:=fun w=>l01In_no (zs.getD k 0) 0 high w hin
     clear hcell hin HE HF
     generalize zs.getD k 0=x at hc kI
     go_wp2_with fail
     refine (kI _).mono ?_
     rintro e w1 ⟨rfl,rfl⟩
     go_wp2
     go_ret
     exact ⟨rfl,rfl⟩
   ·obtain rfl:k=len:=by omega
    obtain rfl:fin=b:=HE.out (fun i hi=>HK.out i (by omega))
    clear hcell HE HF HK
    go_wp2
    go_ret
    exact ⟨rfl,rfl⟩

theorem l03Shape_is (s:S4) (m:V4) (w:World) (h:Vmem w s m) :
  Calls Tryd.prog 61 #[s.val] w fun e w'=>e=.returned (.bool (shapeOk m))∧Below w.heap.size w w':=by
 obtain ⟨⟨i0,_⟩,⟨i1,_⟩,⟨i2,_⟩,⟨i3,_⟩⟩:=h
 obtain ⟨⟨a0,n0,c0⟩,⟨a1,n1,c1⟩,⟨a2,n2,c2⟩,⟨a3,n3,c3⟩⟩:=s
 obtain ⟨m0,m1,m2,m3⟩:=m
 unfold S4.val shapeOk
 simp only at i0 i1 i2 i3 ⊢
 have bw:Below w.heap.size w (w.alloc (.cells #[.slice a0 n0 c0,.slice a1 n1 c1,.slice a2 n2 c2,.slice a3 n3 c3] 65)):=by go_grown
 have k0:=l03All_is a0 n0 c0 m0 3 6 _ (i0.below bw)
 have k1:=l03All_is a1 n1 c1 m1 4 9 _ (i1.below bw)
 have k2:=l03All_is a2 n2 c2 m2 2 3 _ (i2.below bw)
 have k3:=l03All_is a3 n3 c3 m3 6 9 _ (i3.below bw)
 clear i0 i1 i2 i3
 generalize allIn m0 3 6=x0 at *
 generalize allIn m1 4 9=x1 at *
 generalize allIn m2 2 3=x2 at *
 generalize allIn m3 6 9=x3 at *
 go_enter Tryd.func61,Tryd.ntmps61
 go_wp2_with fail
 refine k0.mono ?_
 rintro e w1 ⟨rfl,rfl⟩
 cases x0
 ·go_wp2
  go_ret
  exact ⟨rfl,bw⟩
 go_wp2_with fail
 refine k1.mono ?_
 rintro e w1 ⟨rfl,rfl⟩
 cases x1
 ·go_wp2
  go_ret
  exact ⟨rfl,bw⟩
 go_wp2_with fail
 refine k2.mono ?_
 rintro e w1 ⟨rfl,rfl⟩
 cases x2
 ·go_wp2
  go_ret
  exact ⟨rfl,bw⟩
 go_wp2_with fail
 refine k3.mono ?_
 rintro e w1 ⟨rfl,rfl⟩
 cases x3
 ·go_wp2
  go_ret
  exact ⟨rfl,bw⟩
 go_wp2
 go_ret
 exact ⟨rfl,bw⟩

end Go.Proofs.YtfpopbbmnbehiaaDoor
