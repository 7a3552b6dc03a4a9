/-
  Joined: CodeI, Parts, DrawI, InOK.
-/
import Derived.Deep.RegionLaw
import Derived.Laws.OwnMore
import Derived.Test.YtifoggpohlegmaaGreatDoorS03

namespace Go.Proofs.YtifoggpohlegmaaGreatDoor
set_option maxRecDepth 100000
set_option maxHeartbeats 16000000
open Go.RowKit

def okFrom (n:Nat):Nat→List I3→Bool
 | _,[]=>true
 | i,x::xs=>(okI x && leads x i n) && okFrom n (i+1) xs

def codeOk (xs:List I3):Bool:=decide (xs.length≤6) && okFrom xs.length 0 xs

theorem okFrom_step {n k:Nat} {xs:List I3} (hk:k<xs.length):okFrom n k (xs.drop k)=((okI (xs.getD k (0,0,0)) && leads (xs.getD k (0,0,0)) k n) && okFrom n (k+1) (xs.drop (k+1))):=by
 rw [List.drop_eq_getElem_cons hk]
 show ((okI (xs[k]) && leads (xs[k]) k n) && okFrom n (k+1) (xs.drop (k+1)))=_
 simp [List.getD,hk]

theorem codeOK_long (a:Option Addr) (len cap:Nat) (w:World) (hl:len≤maxLen) (hlen:6<len) :
  Calls Tryz.prog 89 #[.slice a len cap] w fun e w'=>e=.returned (.bool false)∧Below w.heap.size w w':=by
 unfold maxLen at hl
 go_enter Tryz.func89,Tryz.ntmps89
 go_wp2
 go_ret
 exact ⟨rfl,by go_grown⟩

theorem codeOK_short (a:Option Addr) (len cap:Nat) (xs:List I3) (w:World) (h:Instrs w a len cap xs) (hlen:len≤6) :
  Calls Tryz.prog 89 #[.slice a len cap] w fun e w'=>e=.returned (.bool (okFrom len 0 xs))∧Below w.heap.size w w':=by
 obtain ⟨fin,hfin⟩:∃ fin,fin=okFrom len 0 xs:=⟨_,rfl⟩
 rw [← hfin]
 have hfin':Hid (fin=okFrom len 0 (xs.drop 0)):=hfin
 clear hfin
 obtain ⟨hl,hlc,hcm,_,hcase⟩:=h
 unfold maxLen at hcm
 go_enter Tryz.func89,Tryz.ntmps89
 go_wp2
 go_loopw [10] (fun si wr=>∃ (k:Nat),k≤len∧si=.int .i64 k∧Hid (fin=okFrom len k (xs.drop k))∧Below w.heap.size w wr) (fun si _=>len - (intOf si).toNat)
 case atStart=>exact ⟨0,by omega,rfl,hfin',by go_grown⟩
 case round =>
  obtain ⟨k,hk,rfl,hH,hbel⟩:=hrel
  by_cases hlt:k<len
  ·rcases hcase with h0 | ⟨b,off,rfl,hblt,hcell⟩
   ·omega
   have hlt2:(k:Int)<(len:Int):=by omega
   obtain ⟨c0,c1,c2⟩:=hcell k hlt
   have hst:=okFrom_step (n:=len) (xs:=xs) (k:=k) (by omega)
   generalize xs.getD k (0,0,0)=x at c0 c1 c2 hst
   have hst':Hid (okFrom len k (xs.drop k)=((okI x && leads x k len) && okFrom len (k+1) (xs.drop (k+1)))):=hst
   clear hst hcell
   have d0:wr.cell? ⟨b,off+k*3,none⟩=some (.int .i64 x.1):=by rw [hbel.cell (p:=⟨b,_,none⟩) hblt];exact c0
   have d1:wr.cell? ⟨b,off+k*3+1,none⟩=some (.int .i64 x.2.1):=by rw [hbel.cell (p:=⟨b,_,none⟩) hblt];exact c1
   have d2:wr.cell? ⟨b,off+k*3+2,none⟩=some (.int .i64 x.2.2):=by rw [hbel.cell (p:=⟨b,_,none⟩) hblt];exact c2
   clear c0 c1 c2
   go_wp2_with fail
   refine (instrOK_is x _).mono ?_
   rintro e w1 ⟨rfl,hb1⟩
   have e0:w1.cell? ⟨wr.heap.size,0,none⟩=some (.int .i64 x.1):=by rw [hb1.cell (by simp)];simp [go_sem]
   have e1:w1.cell? ⟨wr.heap.size,1,none⟩=some (.int .i64 x.2.1):=by rw [hb1.cell (by simp)];simp [go_sem]
   have e2:w1.cell? ⟨wr.heap.size,2,none⟩=some (.int .i64 x.2.2):=by rw [hb1.cell (by simp)];simp [go_sem]
   have hb2:Below w.heap.size w w1:=bel_trans hbel (bel_trans (by go_grown) hb1)
   clear hb1 hbel d0 d1 d2
   cases hp:okI x
   ·have hff:fin=false:=by rw [hH.out,hst'.out,hp];rfl
    subst hff
    clear hH hst' hp
    go_wp2
    go_ret
    exact ⟨rfl,hb2⟩
   ·go_wp2_with fail
    refine (leadsOn_is x _ _ _).mono ?_
    rintro e w2 ⟨rfl,hb3⟩
    have hb4:=bel_trans hb2 hb3
    clear hb2 hb3 e0 e1 e2
    cases hq:leads x k len
    ·have hff:fin=false:=by rw [hH.out,hst'.out,hp,hq];rfl
     subst hff
     clear hH hst' hp hq
     go_wp2
     go_ret
     exact ⟨rfl,hb4⟩
    ·have hH':Hid (fin=okFrom len (k+1) (xs.drop (k+1))):=by rw [Hid,hH.out,hst'.out,hp,hq];rfl
     clear hH hst' hp hq
     go_wp2
     go_roundw
     case rel=>exact ⟨k+1,by omega,by go_num,hH',hb4⟩
     case measure=>simp [intOf];omega
  ·obtain rfl:k=len:=by omega
   have hd:okFrom k k (xs.drop k)=true:=by rw [List.drop_eq_nil_of_le (by omega)];rfl
   have hff:fin=true:=hH.out.trans hd
   subst hff
   clear hH hd hcase
   go_wp2
   go_ret
   exact ⟨rfl,hbel⟩

theorem codeOK_is (a:Option Addr) (len cap:Nat) (xs:List I3) (w:World) (h:Instrs w a len cap xs) :
  Calls Tryz.prog 89 #[.slice a len cap] w fun e w'=>e=.returned (.bool (codeOk xs))∧Below w.heap.size w w':=by
 unfold codeOk
 by_cases hlen:len≤6
 ·have:=codeOK_short a len cap xs w h hlen
  simpa [h.1,hlen] using this
 ·have:=codeOK_long a len cap w (Nat.le_trans h.2.1 h.2.2.1) (by omega)
  simpa [h.1,hlen] using this

def progOk (rows:List (List I3)):Bool:=decide (rows.length=3) && rows.all codeOk

theorem all_step {rows:List (List I3)} {k:Nat} (hk:k<rows.length):(rows.drop k).all codeOk=(codeOk (rows.getD k []) && (rows.drop (k+1)).all codeOk):=by
 rw [List.drop_eq_getElem_cons hk,List.all_cons]
 simp [List.getD,hk]

theorem implProgramOK_is (a:Option Addr) (len cap:Nat) (rows:List (List I3)) (w:World) (h:Codes w a len cap rows) :
  Calls Tryz.prog 39 #[.agg #[.slice a len cap]] w fun e w'=>e=.returned (.bool (progOk rows))∧Below w.heap.size w w':=by
 obtain ⟨fin,hfin⟩:∃ fin,fin=progOk rows:=⟨_,rfl⟩
 rw [← hfin]
 obtain ⟨hl,hlc,hcm,hcase⟩:=h
 unfold maxLen at hcm
 by_cases h3:len=3
 ·subst h3
  have hfin':Hid (fin=(rows.drop 0).all codeOk):=by rw [Hid,hfin,progOk,decide_eq_true hl];rfl
  clear hfin
  rcases hcase with h0 | ⟨b,off,rfl,hblt,hcell⟩
  ·omega
  go_enter Tryz.func39,Tryz.ntmps39
  go_wp2
  go_loopw [12] (fun si wr=>∃ (k:Nat),k≤3∧si=.int .i64 k∧Hid (fin=(rows.drop k).all codeOk)∧Below w.heap.size w wr) (fun si _=>3 - (intOf si).toNat)
  case atStart=>exact ⟨0,by omega,rfl,hfin',by go_grown⟩
  case round =>
   obtain ⟨k,hk,rfl,hH,hbel⟩:=hrel
   by_cases hlt:k<3
   ·have hlt2:(k:Int)<3:=by omega
    obtain ⟨a',len',cap',hc,hI⟩:=hcell k hlt
    have hst:=all_step (rows:=rows) (k:=k) (by omega)
    generalize rows.getD k []=xs at hI hst
    have hst':Hid ((rows.drop k).all codeOk=(codeOk xs && (rows.drop (k+1)).all codeOk)):=hst
    clear hst hcell
    have hc':wr.cell? ⟨b,off+k,none⟩=some (.slice a' len' cap'):=by rw [hbel.cell (p:=⟨b,_,none⟩) hblt];exact hc
    have hI':=hI.below hbel
    clear hc hI
    go_wp2_with fail
    refine (codeOK_is a' len' cap' xs _ (hI'.below (by go_grown))).mono ?_
    rintro e w1 ⟨rfl,hb1⟩
    have hb2:Below w.heap.size w w1:=bel_trans hbel (bel_trans (by go_grown) hb1)
    clear hb1 hbel hc' hI'
    cases hp:codeOk xs
    ·have hff:fin=false:=by rw [hH.out,hst'.out,hp];rfl
     subst hff
     clear hH hst' hp
     go_wp2
     go_ret
     exact ⟨rfl,hb2⟩
    ·have hH':Hid (fin=(rows.drop (k+1)).all codeOk):=by rw [Hid,hH.out,hst'.out,hp];rfl
     clear hH hst' hp
     go_wp2
     go_roundw
     case rel=>exact ⟨k+1,by omega,by go_num,hH',hb2⟩
     case measure=>simp [intOf];omega
   ·obtain rfl:k=3:=by omega
    have hd:(rows.drop 3).all codeOk=true:=by rw [List.drop_eq_nil_of_le (by omega)];rfl
    have hff:fin=true:=hH.out.trans hd
    subst hff
    clear hH hd hcell
    go_wp2
    go_ret
    exact ⟨rfl,hbel⟩
 ·have hff:fin=false:=by rw [hfin,progOk,decide_eq_false (by omega)];rfl
  subst hff
  clear hfin
  have h3':(len:Int)≠3:=by omega
  go_enter Tryz.func39,Tryz.ntmps39
  go_wp2
  go_ret
  exact ⟨rfl,by go_grown⟩


theorem okI_small {x:I3} (h:okI x=true):(0≤x.1∧x.1≤9)∧(0≤x.2.1∧x.2.1≤9)∧(0≤x.2.2∧x.2.2≤9):=by
 unfold okI at h
 rcases op_cases x with h' | h' | h' | h' | h' | h' | h' | h' | h'
 all_goals first
  | (simp [h'] at h;simp only [inB_true] at h;omega)
  | (obtain ⟨h1,h2,h3,h4,h5,h6,h7,h8⟩:=h';simp [h1,h2,h3,h4,h5,h6,h7,h8] at h)
theorem okFrom_mem {n:Nat}:∀ {xs:List I3} {i:Nat},okFrom n i xs=true→∀ x ∈ xs,okI x=true
 | [],_,_,x,hx=>by cases hx
 | y::ys,i,h,x,hx=>by
  unfold okFrom at h
  simp only [Bool.and_eq_true] at h
  rcases List.mem_cons.1 hx with rfl | hx
  ·exact h.1.1
  ·exact okFrom_mem h.2 x hx
theorem progOk_parts {rows:List (List I3)} (h:progOk rows=true):rows.length=3∧∀ r ∈ rows,r.length≤6∧∀ x ∈ r,okI x=true:=by
 unfold progOk at h
 simp only [Bool.and_eq_true,decide_eq_true_eq,List.all_eq_true] at h
 refine ⟨h.1,fun r hr=>?_⟩
 have:=h.2 r hr
 unfold codeOk at this
 simp only [Bool.and_eq_true,decide_eq_true_eq] at this
 exact ⟨this.1,okFrom_mem this.2⟩
theorem step_append_mine {P:Program} {ops:Array Oper} {o:Oper} {a:Act} {w:World} {K:Act→World→Prop} {Q:Exit→Act→World→Prop} {E:Prop}
  (hg:o.guard=none) (s x:Operand) (t:TypeId) (hop:o.op=Op.call { callee:=Callee.builtin Builtin.append,args:=#[s,x],argTypes:=#[t,t] })
  (base:Nat) (e:TypeId) (i:TypeInfo) (z:Value) (size bytes:Nat) (h1:P.underlying t=some (.slice e)) (h2:P.info? e=some i) (h3:i.zero=some z) (h4:i.size=size) (h5:i.bytes=bytes) (h6:z.cells.size=size) (h7:0<size)
  (v:Value) (n:Nat) (olds:List Value) (hs:a.eval s=v) (hown:w.ownsRow base e size v n olds)
  (ad:Addr) (m c:Nat) (news:List Value) (hx:a.eval x=.slice (some ad) m c) (hn:news.length=m*size) (hc:∀ j u,news[j]?=some u→w.cell? (ad.add j)=some u) (h1c:∀ u ∈ news,u.oneCell'=true)
  (b1:n+m≤maxLen) (b2:(n+m)*bytes≤140737488355328) (hbw:base≤w.heap.size)
  (hK:∀ v' w',w'.ownsRow base e size v' (n+m) (olds++news)→w.grownBy w' v.ownBlock→K (a.put o.dst v') w') :
  if Region.wanted o (yielded ops a.tmps)=true then Oper.wp P o a w K Q else E:=by
 have hw:Region.wanted o (yielded ops a.tmps)=true:=by simp [Region.wanted,hg]
 rw [if_pos hw]
 obtain ⟨v',w',hrun,r1,r2,_⟩:=run_append_own (P:=P) w base t o.type e i z size bytes h1 h2 h3 h4 h5 h6 h7 v n olds hown ad m c news hn hc h1c b1 b2 hbw
 subst hs
 unfold Oper.wp
 simp [execOp,hop,resolve,invoke,builtin,hx,hrun,Result.andThen]
 exact hK v' w' r1 r2
theorem three_i64 (a b c:Int):∀ u ∈ [Value.int .i64 a,.int .i64 b,.int .i64 c],u.oneCell'=true:=by intro u hu;simp at hu;rcases hu with rfl | rfl | rfl<;>rfl
theorem cell_three_new (w:World) (x y z:Value) (t:TypeId):∀ j u,[x,y,z][j]?=some u→(w.alloc (.cells #[x,y,z] t)).cell? ((⟨w.heap.size,0,none⟩:Addr).add j)=some u:=by
 intro j u hj
 match j,hj with
 | 0,hj=>simp at hj;subst hj;simp [Addr.add]
 | 1,hj=>simp at hj;subst hj;simp [Addr.add]
 | 2,hj=>simp at hj;subst hj;simp [Addr.add]
 | (j+3),hj=>simp at hj


theorem owns_wn {p base e size n:Nat} {v:Value} {xs:List Value} {w w':World} (h:w.ownsRow base e size v n xs) (hw:Went p w w') (hp:p<base):w'.ownsRow base e size v n xs:=
 h.kept hw (by
  rcases hb:v.ownBlock with _ | x
  ·exact .inl rfl
  ·refine .inr fun e=>?_
   cases e
   have:=(h.lt _ hb).1
   omega)
theorem box3_ (w:World) (x y z:Value) (t B:Nat) (hB:B≤w.heap.size):(w.alloc (.cells #[x,y,z] t)).ownsRow B t 3 (.slice (some ⟨w.heap.size,0,none⟩) 1 1) 1 [x,y,z]:=World.ownsRow_lit w #[x,y,z] 1 hB (by unfold maxLen;omega) rfl
theorem grown_below {w w':World} {X p:Nat} (h:w.grownBy w' (some X)) (hX:p≤X) (hp:p≤w.heap.size):Below p w w':=
 ⟨h.os,h.tape,h.output,h.size,fun k hk=>h.block k (by omega) (fun e=>by cases e;omega)⟩

def DrawnAt (x:I3) (at0 nn:Nat):Prop:=x.1=7→(at0:Int)+1≤x.2.2∧x.2.2≤(nn:Int)
theorem drawn_leads {va:Int} {at0 nn vt:Nat} (h1:at0+1≤vt) (h2:vt≤nn):DrawnAt (7,va,(vt:Int)) at0 nn:=fun _=>⟨by simp only;omega,by simp only;omega⟩
theorem drawn_other {x:I3} {at0 nn:Nat} (h:x.1≠7):DrawnAt x at0 nn:=fun e=>absurd e h
theorem instr_any (p T:Nat) (a:Option Addr) (n cap at0 nn:Nat) (w:World) (hS:Src w p (.slice a n cap) T) (hC:Code w p a n cap) (hT:T≤800000) (hat:at0<nn) (hnn:nn≤3) :
  Calls Tryz.prog 115 #[.pointer (some ⟨p,0,none⟩),.int .i64 at0,.int .i64 nn] w fun e w'=>(∃ x:I3,(okI x=true∧DrawnAt x at0 nn)∧e=.returned x.val)∧Src w' p (.slice a n cap) (T+9)∧Went p w w':=by
 have hpl:=hS.lt
 have hpB:p<w.heap.size:=hS.lt
 have hRr:=box3_ w (.int .i64 0) (.int .i64 0) (.int .i64 0) 159 w.heap.size (Nat.le_refl _)
 replace hS:=hS.alloc (.cells #[.int .i64 0,.int .i64 0,.int .i64 0] 159)
 replace hC:=hC.below ((Below.refl p w).alloc (Nat.le_of_lt hpl) (.cells #[.int .i64 0,.int .i64 0,.int .i64 0] 159))
 have hWt:=(Went.refl p w).alloc (.cells #[.int .i64 0,.int .i64 0,.int .i64 0] 159)
 have hsA:w.heap.size<(w.alloc (.cells #[.int .i64 0,.int .i64 0,.int .i64 0] 159)).heap.size:=by simp
 go_enter Tryz.func115,Tryz.ntmps115
 go_wp2_with fail
 generalize w.alloc (.cells #[.int .i64 0,.int .i64 0,.int .i64 0] 159)=wA at hRr hS hC hWt hsA
 replace hpl:p<wA.heap.size:=by omega
 refine (next_any p T a n cap 8 _ hS hC (by omega) (by omega)).mono ?_
 rintro e w1 ⟨⟨v,hv,rfl⟩,hSn,hWn⟩
 replace hS:=hSn
 replace hRr:=owns_wn hRr hWn hpB
 replace hC:=hC.went hWn (Nat.le_of_lt hpl)
 have hbX:w.heap.size<w1.heap.size:=Nat.lt_of_lt_of_le hsA hWn.size
 replace hpl:=Nat.lt_of_lt_of_le hpl hWn.size
 replace hWt:=hWt.trans hWn
 have hbs:w.heap.size≤w1.heap.size:=by omega
 clear hSn hWn hsA
 have hcases:(1+(v:Int))=1∨(1+(v:Int))=2∨(1+(v:Int))=3∨(1+(v:Int))=4∨(1+(v:Int))=5∨(1+(v:Int))=6∨(1+(v:Int))=7∨(1+(v:Int))=8:=by omega
 rcases hcases with hv1 | hv1 | hv1 | hv1 | hv1 | hv1 | hv1 | hv1
 ·have hXb:=box3_ (w1) (.int .i64 1) (.int .i64 0) (.int .i64 0) 159 w.heap.size hbs
  have hXr:=hXb
  have hGx:w1.grownBy (w1.alloc (.cells #[.int .i64 1,.int .i64 0,.int .i64 0] 159)) none:=World.grownBy_alloc w1 _ none
  replace hRr:=hRr.alloc (.cells #[.int .i64 1,.int .i64 0,.int .i64 0] 159)
  replace hS:=hS.alloc (.cells #[.int .i64 1,.int .i64 0,.int .i64 0] 159)
  replace hC:=hC.below ((Below.refl p w1).alloc (Nat.le_of_lt hpl) (.cells #[.int .i64 1,.int .i64 0,.int .i64 0] 159))
  replace hWt:=hWt.alloc (.cells #[.int .i64 1,.int .i64 0,.int .i64 0] 159)
  replace hpl:p<(w1.alloc (.cells #[.int .i64 1,.int .i64 0,.int .i64 0] 159)).heap.size:=by simp;omega
  have xk:(w1.alloc (.cells #[.int .i64 1,.int .i64 0,.int .i64 0] 159)).cell? ⟨w1.heap.size,0,none⟩=some (.int .i64 1):=by simp [go_sem]
  clear hXb hGx
  go_wp2_with fail
  clear xk
  generalize w1.alloc (.cells #[.int .i64 1,.int .i64 0,.int .i64 0] 159)=wx at hXr hRr hS hC hWt hpl
  generalize w1.heap.size=X at hXr hbs hbX
  refine (next_any p (T+3) a n cap 2 _ hS hC (by omega) (by omega)).mono ?_
  rintro e w2 ⟨⟨va,hva,rfl⟩,hSn,hWn⟩
  replace hS:=hSn
  replace hRr:=owns_wn hRr hWn hpB
  replace hXr:=owns_wn hXr hWn hpB
  replace hC:=hC.went hWn (Nat.le_of_lt hpl)
  replace hpl:=Nat.lt_of_lt_of_le hpl (hWn).size
  replace hWt:=hWt.trans hWn
  clear hSn hWn
  have hva2:va<2:=by omega
  have xs:w2.cell? ⟨X,1,none⟩=some (.int .i64 0):=by simpa using hXr.cellAt 1 (by omega)
  have fs:=hXr.frozenAt 1
  have hXn:=(hXr.stored 1 (.int .i64 (va:Int))).1
  have hRn:(w2.setCell ⟨X,1,none⟩ (.int .i64 (va:Int))).ownsRow w.heap.size 159 3 (.slice (some ⟨w.heap.size,0,none⟩) 1 1) 1 [.int .i64 0,.int .i64 0,.int .i64 0]:=ownsRow_setCell_other hRr (by simp [Value.ownBlock];omega) _
  have hGn:=grownBy_set w2 X 1 (.int .i64 (va:Int))
  have hSn:=hS.grown hGn (fun k e=>by cases e;omega)
  have hWn:Went p w (w2.setCell ⟨X,1,none⟩ (.int .i64 (va:Int))):=hWt.grown hGn (fun k e=>by cases e;omega)
  have hCn:=hC.below (grown_below hGn (show p≤X by omega) (Nat.le_of_lt hpl))
  have hpn:p<(w2.setCell ⟨X,1,none⟩ (.int .i64 (va:Int))).heap.size:=Nat.lt_of_lt_of_le hpl hGn.size
  simp only [List.set_cons_succ,List.set_cons_zero] at hXn
  clear hXr hRr hS hWt hC hpl hGn
  go_wp2_with fail
  clear xs fs
  generalize w2.setCell ⟨X,1,none⟩ (.int .i64 (va:Int))=w3 at hXn hRn hSn hWn hCn hpn
  have hXr:=hXn
  have hRr:=hRn
  have hS:=hSn
  have hWt:=hWn
  have hC:=hCn
  have hpl:=hpn
  clear hXn hRn hSn hWn hCn hpn
  refine (next_any p (T+3+3) a n cap 2 _ hS hC (by omega) (by omega)).mono ?_
  rintro e w4 ⟨⟨vb,hvb,rfl⟩,hSn,hWn⟩
  replace hS:=hSn
  replace hRr:=owns_wn hRr hWn hpB
  replace hXr:=owns_wn hXr hWn hpB
  replace hC:=hC.went hWn (Nat.le_of_lt hpl)
  replace hpl:=Nat.lt_of_lt_of_le hpl (hWn).size
  replace hWt:=hWt.trans hWn
  clear hSn hWn
  have hvb2:vb<2:=by omega
  have xs:w4.cell? ⟨X,2,none⟩=some (.int .i64 0):=by simpa using hXr.cellAt 2 (by omega)
  have fs:=hXr.frozenAt 2
  have hXn:=(hXr.stored 2 (.int .i64 (vb:Int))).1
  have hRn:(w4.setCell ⟨X,2,none⟩ (.int .i64 (vb:Int))).ownsRow w.heap.size 159 3 (.slice (some ⟨w.heap.size,0,none⟩) 1 1) 1 [.int .i64 0,.int .i64 0,.int .i64 0]:=ownsRow_setCell_other hRr (by simp [Value.ownBlock];omega) _
  have hGn:=grownBy_set w4 X 2 (.int .i64 (vb:Int))
  have hSn:=hS.grown hGn (fun k e=>by cases e;omega)
  have hWn:Went p w (w4.setCell ⟨X,2,none⟩ (.int .i64 (vb:Int))):=hWt.grown hGn (fun k e=>by cases e;omega)
  have hCn:=hC.below (grown_below hGn (show p≤X by omega) (Nat.le_of_lt hpl))
  have hpn:p<(w4.setCell ⟨X,2,none⟩ (.int .i64 (vb:Int))).heap.size:=Nat.lt_of_lt_of_le hpl hGn.size
  simp only [List.set_cons_succ,List.set_cons_zero] at hXn
  clear hXr hRr hS hWt hC hpl hGn
  have x0:(w4.setCell ⟨X,2,none⟩ (.int .i64 (vb:Int))).cell? ⟨X,0,none⟩=some (.int .i64 1):=by simpa using hXn.cellAt 0 (by omega)
  have x1:(w4.setCell ⟨X,2,none⟩ (.int .i64 (vb:Int))).cell? ⟨X,1,none⟩=some (.int .i64 (va:Int)):=by simpa using hXn.cellAt 1 (by omega)
  have x2:(w4.setCell ⟨X,2,none⟩ (.int .i64 (vb:Int))).cell? ⟨X,2,none⟩=some (.int .i64 (vb:Int)):=by simpa using hXn.cellAt 2 (by omega)
  have kR0:(w4.setCell ⟨X,2,none⟩ (.int .i64 (vb:Int))).cell? ⟨w.heap.size,0,none⟩=some (.int .i64 0):=by simpa using hRn.cellAt 0 (by omega)
  have kR1:(w4.setCell ⟨X,2,none⟩ (.int .i64 (vb:Int))).cell? ⟨w.heap.size,1,none⟩=some (.int .i64 0):=by simpa using hRn.cellAt 1 (by omega)
  have kR2:(w4.setCell ⟨X,2,none⟩ (.int .i64 (vb:Int))).cell? ⟨w.heap.size,2,none⟩=some (.int .i64 0):=by simpa using hRn.cellAt 2 (by omega)
  have fR0:=hRn.frozenAt 0
  have fR1:=hRn.frozenAt 1
  have fR2:=hRn.frozenAt 2
  have hR9:=(((hRn.stored 0 (.int .i64 1)).1.stored 1 (.int .i64 (va:Int))).1.stored 2 (.int .i64 (vb:Int))).1
  have g9:=grownBy_tr (grownBy_set (w4.setCell ⟨X,2,none⟩ (.int .i64 (vb:Int))) w.heap.size 0 (.int .i64 1)) (grownBy_tr (grownBy_set _ w.heap.size 1 (.int .i64 (va:Int))) (grownBy_set _ w.heap.size 2 (.int .i64 (vb:Int))))
  have hS9:=(hSn.grown g9 (fun k e=>by cases e;omega)).mono (show _≤T+9 by omega)
  have hW9:=hWn.grown g9 (fun k e=>by cases e;omega)
  clear hRn hXn hSn hWn hCn hpn g9
  go_wp2
  clear kR0 kR1 kR2 fR0 fR1 fR2 x0 x1 x2 xs fs
  generalize (((w4.setCell ⟨X,2,none⟩ (.int .i64 (vb:Int))).setCell ⟨w.heap.size,0,none⟩ (.int .i64 1)).setCell ⟨w.heap.size,1,none⟩ (.int .i64 (va:Int))).setCell ⟨w.heap.size,2,none⟩ (.int .i64 (vb:Int))=w9 at hR9 hS9 hW9
  have k0:w9.cell? ⟨w.heap.size,0,none⟩=some (.int .i64 1):=by simpa using hR9.cellAt 0 (by omega)
  have k1:w9.cell? ⟨w.heap.size,1,none⟩=some (.int .i64 (va:Int)):=by simpa using hR9.cellAt 1 (by omega)
  have k2:w9.cell? ⟨w.heap.size,2,none⟩=some (.int .i64 (vb:Int)):=by simpa using hR9.cellAt 2 (by omega)
  refine bodyPost_ret (by simp [results,Tryz.results115,go_sem,k0,k1,k2];try rfl) rfl ?_
  refine ⟨⟨(1,(va:Int),(vb:Int)),?_,rfl⟩,hS9,hW9⟩
  have ha:va=0∨va=1:=by omega
  have hb:vb=0∨vb=1:=by omega
  refine ⟨?_,?_⟩
  ·rcases ha with rfl | rfl<;>rcases hb with rfl | rfl<;>decide
  ·exact drawn_other (by show (1:Int)≠7;decide)
 ·have hXb:=box3_ (w1) (.int .i64 2) (.int .i64 0) (.int .i64 0) 159 w.heap.size hbs
  have hXr:=hXb
  have hGx:w1.grownBy (w1.alloc (.cells #[.int .i64 2,.int .i64 0,.int .i64 0] 159)) none:=World.grownBy_alloc w1 _ none
  replace hRr:=hRr.alloc (.cells #[.int .i64 2,.int .i64 0,.int .i64 0] 159)
  replace hS:=hS.alloc (.cells #[.int .i64 2,.int .i64 0,.int .i64 0] 159)
  replace hC:=hC.below ((Below.refl p w1).alloc (Nat.le_of_lt hpl) (.cells #[.int .i64 2,.int .i64 0,.int .i64 0] 159))
  replace hWt:=hWt.alloc (.cells #[.int .i64 2,.int .i64 0,.int .i64 0] 159)
  replace hpl:p<(w1.alloc (.cells #[.int .i64 2,.int .i64 0,.int .i64 0] 159)).heap.size:=by simp;omega
  have xk:(w1.alloc (.cells #[.int .i64 2,.int .i64 0,.int .i64 0] 159)).cell? ⟨w1.heap.size,0,none⟩=some (.int .i64 2):=by simp [go_sem]
  clear hXb hGx
  go_wp2_with fail
  clear xk
  generalize w1.alloc (.cells #[.int .i64 2,.int .i64 0,.int .i64 0] 159)=wx at hXr hRr hS hC hWt hpl
  generalize w1.heap.size=X at hXr hbs hbX
  refine (next_any p (T+3) a n cap 2 _ hS hC (by omega) (by omega)).mono ?_
  rintro e w2 ⟨⟨va,hva,rfl⟩,hSn,hWn⟩
  replace hS:=hSn
  replace hRr:=owns_wn hRr hWn hpB
  replace hXr:=owns_wn hXr hWn hpB
  replace hC:=hC.went hWn (Nat.le_of_lt hpl)
  replace hpl:=Nat.lt_of_lt_of_le hpl (hWn).size
  replace hWt:=hWt.trans hWn
  clear hSn hWn
  have hva2:va<2:=by omega
  have xs:w2.cell? ⟨X,1,none⟩=some (.int .i64 0):=by simpa using hXr.cellAt 1 (by omega)
  have fs:=hXr.frozenAt 1
  have hXn:=(hXr.stored 1 (.int .i64 (va:Int))).1
  have hRn:(w2.setCell ⟨X,1,none⟩ (.int .i64 (va:Int))).ownsRow w.heap.size 159 3 (.slice (some ⟨w.heap.size,0,none⟩) 1 1) 1 [.int .i64 0,.int .i64 0,.int .i64 0]:=ownsRow_setCell_other hRr (by simp [Value.ownBlock];omega) _
  have hGn:=grownBy_set w2 X 1 (.int .i64 (va:Int))
  have hSn:=hS.grown hGn (fun k e=>by cases e;omega)
  have hWn:Went p w (w2.setCell ⟨X,1,none⟩ (.int .i64 (va:Int))):=hWt.grown hGn (fun k e=>by cases e;omega)
  have hCn:=hC.below (grown_below hGn (show p≤X by omega) (Nat.le_of_lt hpl))
  have hpn:p<(w2.setCell ⟨X,1,none⟩ (.int .i64 (va:Int))).heap.size:=Nat.lt_of_lt_of_le hpl hGn.size
  simp only [List.set_cons_succ,List.set_cons_zero] at hXn
  clear hXr hRr hS hWt hC hpl hGn
  go_wp2_with fail
  clear xs fs
  generalize w2.setCell ⟨X,1,none⟩ (.int .i64 (va:Int))=w3 at hXn hRn hSn hWn hCn hpn
  have hXr:=hXn
  have hRr:=hRn
  have hS:=hSn
  have hWt:=hWn
  have hC:=hCn
  have hpl:=hpn
  clear hXn hRn hSn hWn hCn hpn
  refine (next_any p (T+3+3) a n cap 2 _ hS hC (by omega) (by omega)).mono ?_
  rintro e w4 ⟨⟨vb,hvb,rfl⟩,hSn,hWn⟩
  replace hS:=hSn
  replace hRr:=owns_wn hRr hWn hpB
  replace hXr:=owns_wn hXr hWn hpB
  replace hC:=hC.went hWn (Nat.le_of_lt hpl)
  replace hpl:=Nat.lt_of_lt_of_le hpl (hWn).size
  replace hWt:=hWt.trans hWn
  clear hSn hWn
  have hvb2:vb<2:=by omega
  have xs:w4.cell? ⟨X,2,none⟩=some (.int .i64 0):=by simpa using hXr.cellAt 2 (by omega)
  have fs:=hXr.frozenAt 2
  have hXn:=(hXr.stored 2 (.int .i64 (vb:Int))).1
  have hRn:(w4.setCell ⟨X,2,none⟩ (.int .i64 (vb:Int))).ownsRow w.heap.size 159 3 (.slice (some ⟨w.heap.size,0,none⟩) 1 1) 1 [.int .i64 0,.int .i64 0,.int .i64 0]:=ownsRow_setCell_other hRr (by simp [Value.ownBlock];omega) _
  have hGn:=grownBy_set w4 X 2 (.int .i64 (vb:Int))
  have hSn:=hS.grown hGn (fun k e=>by cases e;omega)
  have hWn:Went p w (w4.setCell ⟨X,2,none⟩ (.int .i64 (vb:Int))):=hWt.grown hGn (fun k e=>by cases e;omega)
  have hCn:=hC.below (grown_below hGn (show p≤X by omega) (Nat.le_of_lt hpl))
  have hpn:p<(w4.setCell ⟨X,2,none⟩ (.int .i64 (vb:Int))).heap.size:=Nat.lt_of_lt_of_le hpl hGn.size
  simp only [List.set_cons_succ,List.set_cons_zero] at hXn
  clear hXr hRr hS hWt hC hpl hGn
  have x0:(w4.setCell ⟨X,2,none⟩ (.int .i64 (vb:Int))).cell? ⟨X,0,none⟩=some (.int .i64 2):=by simpa using hXn.cellAt 0 (by omega)
  have x1:(w4.setCell ⟨X,2,none⟩ (.int .i64 (vb:Int))).cell? ⟨X,1,none⟩=some (.int .i64 (va:Int)):=by simpa using hXn.cellAt 1 (by omega)
  have x2:(w4.setCell ⟨X,2,none⟩ (.int .i64 (vb:Int))).cell? ⟨X,2,none⟩=some (.int .i64 (vb:Int)):=by simpa using hXn.cellAt 2 (by omega)
  have kR0:(w4.setCell ⟨X,2,none⟩ (.int .i64 (vb:Int))).cell? ⟨w.heap.size,0,none⟩=some (.int .i64 0):=by simpa using hRn.cellAt 0 (by omega)
  have kR1:(w4.setCell ⟨X,2,none⟩ (.int .i64 (vb:Int))).cell? ⟨w.heap.size,1,none⟩=some (.int .i64 0):=by simpa using hRn.cellAt 1 (by omega)
  have kR2:(w4.setCell ⟨X,2,none⟩ (.int .i64 (vb:Int))).cell? ⟨w.heap.size,2,none⟩=some (.int .i64 0):=by simpa using hRn.cellAt 2 (by omega)
  have fR0:=hRn.frozenAt 0
  have fR1:=hRn.frozenAt 1
  have fR2:=hRn.frozenAt 2
  have hR9:=(((hRn.stored 0 (.int .i64 2)).1.stored 1 (.int .i64 (va:Int))).1.stored 2 (.int .i64 (vb:Int))).1
  have g9:=grownBy_tr (grownBy_set (w4.setCell ⟨X,2,none⟩ (.int .i64 (vb:Int))) w.heap.size 0 (.int .i64 2)) (grownBy_tr (grownBy_set _ w.heap.size 1 (.int .i64 (va:Int))) (grownBy_set _ w.heap.size 2 (.int .i64 (vb:Int))))
  have hS9:=(hSn.grown g9 (fun k e=>by cases e;omega)).mono (show _≤T+9 by omega)
  have hW9:=hWn.grown g9 (fun k e=>by cases e;omega)
  clear hRn hXn hSn hWn hCn hpn g9
  go_wp2
  clear kR0 kR1 kR2 fR0 fR1 fR2 x0 x1 x2 xs fs
  generalize (((w4.setCell ⟨X,2,none⟩ (.int .i64 (vb:Int))).setCell ⟨w.heap.size,0,none⟩ (.int .i64 2)).setCell ⟨w.heap.size,1,none⟩ (.int .i64 (va:Int))).setCell ⟨w.heap.size,2,none⟩ (.int .i64 (vb:Int))=w9 at hR9 hS9 hW9
  have k0:w9.cell? ⟨w.heap.size,0,none⟩=some (.int .i64 2):=by simpa using hR9.cellAt 0 (by omega)
  have k1:w9.cell? ⟨w.heap.size,1,none⟩=some (.int .i64 (va:Int)):=by simpa using hR9.cellAt 1 (by omega)
  have k2:w9.cell? ⟨w.heap.size,2,none⟩=some (.int .i64 (vb:Int)):=by simpa using hR9.cellAt 2 (by omega)
  refine bodyPost_ret (by simp [results,Tryz.results115,go_sem,k0,k1,k2];try rfl) rfl ?_
  refine ⟨⟨(2,(va:Int),(vb:Int)),?_,rfl⟩,hS9,hW9⟩
  have ha:va=0∨va=1:=by omega
  have hb:vb=0∨vb=1:=by omega
  refine ⟨?_,?_⟩
  ·rcases ha with rfl | rfl<;>rcases hb with rfl | rfl<;>decide
  ·exact drawn_other (by show (2:Int)≠7;decide)
 ·have hXb:=box3_ (w1) (.int .i64 3) (.int .i64 0) (.int .i64 0) 159 w.heap.size hbs
  have hXr:=hXb
  have hGx:w1.grownBy (w1.alloc (.cells #[.int .i64 3,.int .i64 0,.int .i64 0] 159)) none:=World.grownBy_alloc w1 _ none
  replace hRr:=hRr.alloc (.cells #[.int .i64 3,.int .i64 0,.int .i64 0] 159)
  replace hS:=hS.alloc (.cells #[.int .i64 3,.int .i64 0,.int .i64 0] 159)
  replace hC:=hC.below ((Below.refl p w1).alloc (Nat.le_of_lt hpl) (.cells #[.int .i64 3,.int .i64 0,.int .i64 0] 159))
  replace hWt:=hWt.alloc (.cells #[.int .i64 3,.int .i64 0,.int .i64 0] 159)
  replace hpl:p<(w1.alloc (.cells #[.int .i64 3,.int .i64 0,.int .i64 0] 159)).heap.size:=by simp;omega
  have xk:(w1.alloc (.cells #[.int .i64 3,.int .i64 0,.int .i64 0] 159)).cell? ⟨w1.heap.size,0,none⟩=some (.int .i64 3):=by simp [go_sem]
  clear hXb hGx
  go_wp2_with fail
  clear xk
  generalize w1.alloc (.cells #[.int .i64 3,.int .i64 0,.int .i64 0] 159)=wx at hXr hRr hS hC hWt hpl
  generalize w1.heap.size=X at hXr hbs hbX
  refine (next_any p (T+3) a n cap 2 _ hS hC (by omega) (by omega)).mono ?_
  rintro e w2 ⟨⟨va,hva,rfl⟩,hSn,hWn⟩
  replace hS:=hSn
  replace hRr:=owns_wn hRr hWn hpB
  replace hXr:=owns_wn hXr hWn hpB
  replace hC:=hC.went hWn (Nat.le_of_lt hpl)
  replace hpl:=Nat.lt_of_lt_of_le hpl (hWn).size
  replace hWt:=hWt.trans hWn
  clear hSn hWn
  have hva2:va<2:=by omega
  have xs:w2.cell? ⟨X,1,none⟩=some (.int .i64 0):=by simpa using hXr.cellAt 1 (by omega)
  have fs:=hXr.frozenAt 1
  have hXn:=(hXr.stored 1 (.int .i64 (va:Int))).1
  have hRn:(w2.setCell ⟨X,1,none⟩ (.int .i64 (va:Int))).ownsRow w.heap.size 159 3 (.slice (some ⟨w.heap.size,0,none⟩) 1 1) 1 [.int .i64 0,.int .i64 0,.int .i64 0]:=ownsRow_setCell_other hRr (by simp [Value.ownBlock];omega) _
  have hGn:=grownBy_set w2 X 1 (.int .i64 (va:Int))
  have hSn:=hS.grown hGn (fun k e=>by cases e;omega)
  have hWn:Went p w (w2.setCell ⟨X,1,none⟩ (.int .i64 (va:Int))):=hWt.grown hGn (fun k e=>by cases e;omega)
  have hCn:=hC.below (grown_below hGn (show p≤X by omega) (Nat.le_of_lt hpl))
  have hpn:p<(w2.setCell ⟨X,1,none⟩ (.int .i64 (va:Int))).heap.size:=Nat.lt_of_lt_of_le hpl hGn.size
  simp only [List.set_cons_succ,List.set_cons_zero] at hXn
  clear hXr hRr hS hWt hC hpl hGn
  go_wp2_with fail
  clear xs fs
  generalize w2.setCell ⟨X,1,none⟩ (.int .i64 (va:Int))=w3 at hXn hRn hSn hWn hCn hpn
  have hXr:=hXn
  have hRr:=hRn
  have hS:=hSn
  have hWt:=hWn
  have hC:=hCn
  have hpl:=hpn
  clear hXn hRn hSn hWn hCn hpn
  refine (next_any p (T+3+3) a n cap 3 _ hS hC (by omega) (by omega)).mono ?_
  rintro e w4 ⟨⟨vb,hvb,rfl⟩,hSn,hWn⟩
  replace hS:=hSn
  replace hRr:=owns_wn hRr hWn hpB
  replace hXr:=owns_wn hXr hWn hpB
  replace hC:=hC.went hWn (Nat.le_of_lt hpl)
  replace hpl:=Nat.lt_of_lt_of_le hpl (hWn).size
  replace hWt:=hWt.trans hWn
  clear hSn hWn
  have hvb2:vb<3:=by omega
  have xs:w4.cell? ⟨X,2,none⟩=some (.int .i64 0):=by simpa using hXr.cellAt 2 (by omega)
  have fs:=hXr.frozenAt 2
  have hXn:=(hXr.stored 2 (.int .i64 (vb:Int))).1
  have hRn:(w4.setCell ⟨X,2,none⟩ (.int .i64 (vb:Int))).ownsRow w.heap.size 159 3 (.slice (some ⟨w.heap.size,0,none⟩) 1 1) 1 [.int .i64 0,.int .i64 0,.int .i64 0]:=ownsRow_setCell_other hRr (by simp [Value.ownBlock];omega) _
  have hGn:=grownBy_set w4 X 2 (.int .i64 (vb:Int))
  have hSn:=hS.grown hGn (fun k e=>by cases e;omega)
  have hWn:Went p w (w4.setCell ⟨X,2,none⟩ (.int .i64 (vb:Int))):=hWt.grown hGn (fun k e=>by cases e;omega)
  have hCn:=hC.below (grown_below hGn (show p≤X by omega) (Nat.le_of_lt hpl))
  have hpn:p<(w4.setCell ⟨X,2,none⟩ (.int .i64 (vb:Int))).heap.size:=Nat.lt_of_lt_of_le hpl hGn.size
  simp only [List.set_cons_succ,List.set_cons_zero] at hXn
  clear hXr hRr hS hWt hC hpl hGn
  have x0:(w4.setCell ⟨X,2,none⟩ (.int .i64 (vb:Int))).cell? ⟨X,0,none⟩=some (.int .i64 3):=by simpa using hXn.cellAt 0 (by omega)
  have x1:(w4.setCell ⟨X,2,none⟩ (.int .i64 (vb:Int))).cell? ⟨X,1,none⟩=some (.int .i64 (va:Int)):=by simpa using hXn.cellAt 1 (by omega)
  have x2:(w4.setCell ⟨X,2,none⟩ (.int .i64 (vb:Int))).cell? ⟨X,2,none⟩=some (.int .i64 (vb:Int)):=by simpa using hXn.cellAt 2 (by omega)
  have kR0:(w4.setCell ⟨X,2,none⟩ (.int .i64 (vb:Int))).cell? ⟨w.heap.size,0,none⟩=some (.int .i64 0):=by simpa using hRn.cellAt 0 (by omega)
  have kR1:(w4.setCell ⟨X,2,none⟩ (.int .i64 (vb:Int))).cell? ⟨w.heap.size,1,none⟩=some (.int .i64 0):=by simpa using hRn.cellAt 1 (by omega)
  have kR2:(w4.setCell ⟨X,2,none⟩ (.int .i64 (vb:Int))).cell? ⟨w.heap.size,2,none⟩=some (.int .i64 0):=by simpa using hRn.cellAt 2 (by omega)
  have fR0:=hRn.frozenAt 0
  have fR1:=hRn.frozenAt 1
  have fR2:=hRn.frozenAt 2
  have hR9:=(((hRn.stored 0 (.int .i64 3)).1.stored 1 (.int .i64 (va:Int))).1.stored 2 (.int .i64 (vb:Int))).1
  have g9:=grownBy_tr (grownBy_set (w4.setCell ⟨X,2,none⟩ (.int .i64 (vb:Int))) w.heap.size 0 (.int .i64 3)) (grownBy_tr (grownBy_set _ w.heap.size 1 (.int .i64 (va:Int))) (grownBy_set _ w.heap.size 2 (.int .i64 (vb:Int))))
  have hS9:=(hSn.grown g9 (fun k e=>by cases e;omega)).mono (show _≤T+9 by omega)
  have hW9:=hWn.grown g9 (fun k e=>by cases e;omega)
  clear hRn hXn hSn hWn hCn hpn g9
  go_wp2
  clear kR0 kR1 kR2 fR0 fR1 fR2 x0 x1 x2 xs fs
  generalize (((w4.setCell ⟨X,2,none⟩ (.int .i64 (vb:Int))).setCell ⟨w.heap.size,0,none⟩ (.int .i64 3)).setCell ⟨w.heap.size,1,none⟩ (.int .i64 (va:Int))).setCell ⟨w.heap.size,2,none⟩ (.int .i64 (vb:Int))=w9 at hR9 hS9 hW9
  have k0:w9.cell? ⟨w.heap.size,0,none⟩=some (.int .i64 3):=by simpa using hR9.cellAt 0 (by omega)
  have k1:w9.cell? ⟨w.heap.size,1,none⟩=some (.int .i64 (va:Int)):=by simpa using hR9.cellAt 1 (by omega)
  have k2:w9.cell? ⟨w.heap.size,2,none⟩=some (.int .i64 (vb:Int)):=by simpa using hR9.cellAt 2 (by omega)
  refine bodyPost_ret (by simp [results,Tryz.results115,go_sem,k0,k1,k2];try rfl) rfl ?_
  refine ⟨⟨(3,(va:Int),(vb:Int)),?_,rfl⟩,hS9,hW9⟩
  have ha:va=0∨va=1:=by omega
  have hb:vb=0∨vb=1∨vb=2:=by omega
  refine ⟨?_,?_⟩
  ·rcases ha with rfl | rfl<;>rcases hb with rfl | rfl | rfl<;>decide
  ·exact drawn_other (by show (3:Int)≠7;decide)
 ·have hXb:=box3_ (w1) (.int .i64 4) (.int .i64 0) (.int .i64 0) 159 w.heap.size hbs
  have hXr:=hXb
  have hGx:w1.grownBy (w1.alloc (.cells #[.int .i64 4,.int .i64 0,.int .i64 0] 159)) none:=World.grownBy_alloc w1 _ none
  replace hRr:=hRr.alloc (.cells #[.int .i64 4,.int .i64 0,.int .i64 0] 159)
  replace hS:=hS.alloc (.cells #[.int .i64 4,.int .i64 0,.int .i64 0] 159)
  replace hC:=hC.below ((Below.refl p w1).alloc (Nat.le_of_lt hpl) (.cells #[.int .i64 4,.int .i64 0,.int .i64 0] 159))
  replace hWt:=hWt.alloc (.cells #[.int .i64 4,.int .i64 0,.int .i64 0] 159)
  replace hpl:p<(w1.alloc (.cells #[.int .i64 4,.int .i64 0,.int .i64 0] 159)).heap.size:=by simp;omega
  have xk:(w1.alloc (.cells #[.int .i64 4,.int .i64 0,.int .i64 0] 159)).cell? ⟨w1.heap.size,0,none⟩=some (.int .i64 4):=by simp [go_sem]
  clear hXb hGx
  go_wp2_with fail
  clear xk
  generalize w1.alloc (.cells #[.int .i64 4,.int .i64 0,.int .i64 0] 159)=wx at hXr hRr hS hC hWt hpl
  generalize w1.heap.size=X at hXr hbs hbX
  refine (next_any p (T+3) a n cap 2 _ hS hC (by omega) (by omega)).mono ?_
  rintro e w2 ⟨⟨va,hva,rfl⟩,hSn,hWn⟩
  replace hS:=hSn
  replace hRr:=owns_wn hRr hWn hpB
  replace hXr:=owns_wn hXr hWn hpB
  replace hC:=hC.went hWn (Nat.le_of_lt hpl)
  replace hpl:=Nat.lt_of_lt_of_le hpl (hWn).size
  replace hWt:=hWt.trans hWn
  clear hSn hWn
  have hva2:va<2:=by omega
  have xs:w2.cell? ⟨X,1,none⟩=some (.int .i64 0):=by simpa using hXr.cellAt 1 (by omega)
  have fs:=hXr.frozenAt 1
  have hXn:=(hXr.stored 1 (.int .i64 (va:Int))).1
  have hRn:(w2.setCell ⟨X,1,none⟩ (.int .i64 (va:Int))).ownsRow w.heap.size 159 3 (.slice (some ⟨w.heap.size,0,none⟩) 1 1) 1 [.int .i64 0,.int .i64 0,.int .i64 0]:=ownsRow_setCell_other hRr (by simp [Value.ownBlock];omega) _
  have hGn:=grownBy_set w2 X 1 (.int .i64 (va:Int))
  have hSn:=hS.grown hGn (fun k e=>by cases e;omega)
  have hWn:Went p w (w2.setCell ⟨X,1,none⟩ (.int .i64 (va:Int))):=hWt.grown hGn (fun k e=>by cases e;omega)
  have hCn:=hC.below (grown_below hGn (show p≤X by omega) (Nat.le_of_lt hpl))
  have hpn:p<(w2.setCell ⟨X,1,none⟩ (.int .i64 (va:Int))).heap.size:=Nat.lt_of_lt_of_le hpl hGn.size
  simp only [List.set_cons_succ,List.set_cons_zero] at hXn
  clear hXr hRr hS hWt hC hpl hGn
  go_wp2_with fail
  clear xs fs
  generalize w2.setCell ⟨X,1,none⟩ (.int .i64 (va:Int))=w3 at hXn hRn hSn hWn hCn hpn
  have hXr:=hXn
  have hRr:=hRn
  have hS:=hSn
  have hWt:=hWn
  have hC:=hCn
  have hpl:=hpn
  clear hXn hRn hSn hWn hCn hpn
  refine (next_any p (T+3+3) a n cap 3 _ hS hC (by omega) (by omega)).mono ?_
  rintro e w4 ⟨⟨vb,hvb,rfl⟩,hSn,hWn⟩
  replace hS:=hSn
  replace hRr:=owns_wn hRr hWn hpB
  replace hXr:=owns_wn hXr hWn hpB
  replace hC:=hC.went hWn (Nat.le_of_lt hpl)
  replace hpl:=Nat.lt_of_lt_of_le hpl (hWn).size
  replace hWt:=hWt.trans hWn
  clear hSn hWn
  have hvb2:vb<3:=by omega
  have xs:w4.cell? ⟨X,2,none⟩=some (.int .i64 0):=by simpa using hXr.cellAt 2 (by omega)
  have fs:=hXr.frozenAt 2
  have hXn:=(hXr.stored 2 (.int .i64 (vb:Int))).1
  have hRn:(w4.setCell ⟨X,2,none⟩ (.int .i64 (vb:Int))).ownsRow w.heap.size 159 3 (.slice (some ⟨w.heap.size,0,none⟩) 1 1) 1 [.int .i64 0,.int .i64 0,.int .i64 0]:=ownsRow_setCell_other hRr (by simp [Value.ownBlock];omega) _
  have hGn:=grownBy_set w4 X 2 (.int .i64 (vb:Int))
  have hSn:=hS.grown hGn (fun k e=>by cases e;omega)
  have hWn:Went p w (w4.setCell ⟨X,2,none⟩ (.int .i64 (vb:Int))):=hWt.grown hGn (fun k e=>by cases e;omega)
  have hCn:=hC.below (grown_below hGn (show p≤X by omega) (Nat.le_of_lt hpl))
  have hpn:p<(w4.setCell ⟨X,2,none⟩ (.int .i64 (vb:Int))).heap.size:=Nat.lt_of_lt_of_le hpl hGn.size
  simp only [List.set_cons_succ,List.set_cons_zero] at hXn
  clear hXr hRr hS hWt hC hpl hGn
  have x0:(w4.setCell ⟨X,2,none⟩ (.int .i64 (vb:Int))).cell? ⟨X,0,none⟩=some (.int .i64 4):=by simpa using hXn.cellAt 0 (by omega)
  have x1:(w4.setCell ⟨X,2,none⟩ (.int .i64 (vb:Int))).cell? ⟨X,1,none⟩=some (.int .i64 (va:Int)):=by simpa using hXn.cellAt 1 (by omega)
  have x2:(w4.setCell ⟨X,2,none⟩ (.int .i64 (vb:Int))).cell? ⟨X,2,none⟩=some (.int .i64 (vb:Int)):=by simpa using hXn.cellAt 2 (by omega)
  have kR0:(w4.setCell ⟨X,2,none⟩ (.int .i64 (vb:Int))).cell? ⟨w.heap.size,0,none⟩=some (.int .i64 0):=by simpa using hRn.cellAt 0 (by omega)
  have kR1:(w4.setCell ⟨X,2,none⟩ (.int .i64 (vb:Int))).cell? ⟨w.heap.size,1,none⟩=some (.int .i64 0):=by simpa using hRn.cellAt 1 (by omega)
  have kR2:(w4.setCell ⟨X,2,none⟩ (.int .i64 (vb:Int))).cell? ⟨w.heap.size,2,none⟩=some (.int .i64 0):=by simpa using hRn.cellAt 2 (by omega)
  have fR0:=hRn.frozenAt 0
  have fR1:=hRn.frozenAt 1
  have fR2:=hRn.frozenAt 2
  have hR9:=(((hRn.stored 0 (.int .i64 4)).1.stored 1 (.int .i64 (va:Int))).1.stored 2 (.int .i64 (vb:Int))).1
  have g9:=grownBy_tr (grownBy_set (w4.setCell ⟨X,2,none⟩ (.int .i64 (vb:Int))) w.heap.size 0 (.int .i64 4)) (grownBy_tr (grownBy_set _ w.heap.size 1 (.int .i64 (va:Int))) (grownBy_set _ w.heap.size 2 (.int .i64 (vb:Int))))
  have hS9:=(hSn.grown g9 (fun k e=>by cases e;omega)).mono (show _≤T+9 by omega)
  have hW9:=hWn.grown g9 (fun k e=>by cases e;omega)
  clear hRn hXn hSn hWn hCn hpn g9
  go_wp2
  clear kR0 kR1 kR2 fR0 fR1 fR2 x0 x1 x2 xs fs
  generalize (((w4.setCell ⟨X,2,none⟩ (.int .i64 (vb:Int))).setCell ⟨w.heap.size,0,none⟩ (.int .i64 4)).setCell ⟨w.heap.size,1,none⟩ (.int .i64 (va:Int))).setCell ⟨w.heap.size,2,none⟩ (.int .i64 (vb:Int))=w9 at hR9 hS9 hW9
  have k0:w9.cell? ⟨w.heap.size,0,none⟩=some (.int .i64 4):=by simpa using hR9.cellAt 0 (by omega)
  have k1:w9.cell? ⟨w.heap.size,1,none⟩=some (.int .i64 (va:Int)):=by simpa using hR9.cellAt 1 (by omega)
  have k2:w9.cell? ⟨w.heap.size,2,none⟩=some (.int .i64 (vb:Int)):=by simpa using hR9.cellAt 2 (by omega)
  refine bodyPost_ret (by simp [results,Tryz.results115,go_sem,k0,k1,k2];try rfl) rfl ?_
  refine ⟨⟨(4,(va:Int),(vb:Int)),?_,rfl⟩,hS9,hW9⟩
  have ha:va=0∨va=1:=by omega
  have hb:vb=0∨vb=1∨vb=2:=by omega
  refine ⟨?_,?_⟩
  ·rcases ha with rfl | rfl<;>rcases hb with rfl | rfl | rfl<;>decide
  ·exact drawn_other (by show (4:Int)≠7;decide)
 ·have hXb:=box3_ (w1) (.int .i64 5) (.int .i64 0) (.int .i64 0) 159 w.heap.size hbs
  have hXr:=hXb
  have hGx:w1.grownBy (w1.alloc (.cells #[.int .i64 5,.int .i64 0,.int .i64 0] 159)) none:=World.grownBy_alloc w1 _ none
  replace hRr:=hRr.alloc (.cells #[.int .i64 5,.int .i64 0,.int .i64 0] 159)
  replace hS:=hS.alloc (.cells #[.int .i64 5,.int .i64 0,.int .i64 0] 159)
  replace hC:=hC.below ((Below.refl p w1).alloc (Nat.le_of_lt hpl) (.cells #[.int .i64 5,.int .i64 0,.int .i64 0] 159))
  replace hWt:=hWt.alloc (.cells #[.int .i64 5,.int .i64 0,.int .i64 0] 159)
  replace hpl:p<(w1.alloc (.cells #[.int .i64 5,.int .i64 0,.int .i64 0] 159)).heap.size:=by simp;omega
  have xk:(w1.alloc (.cells #[.int .i64 5,.int .i64 0,.int .i64 0] 159)).cell? ⟨w1.heap.size,0,none⟩=some (.int .i64 5):=by simp [go_sem]
  clear hXb hGx
  go_wp2_with fail
  clear xk
  generalize w1.alloc (.cells #[.int .i64 5,.int .i64 0,.int .i64 0] 159)=wx at hXr hRr hS hC hWt hpl
  generalize w1.heap.size=X at hXr hbs hbX
  refine (next_any p (T+3) a n cap 2 _ hS hC (by omega) (by omega)).mono ?_
  rintro e w2 ⟨⟨va,hva,rfl⟩,hSn,hWn⟩
  replace hS:=hSn
  replace hRr:=owns_wn hRr hWn hpB
  replace hXr:=owns_wn hXr hWn hpB
  replace hC:=hC.went hWn (Nat.le_of_lt hpl)
  replace hpl:=Nat.lt_of_lt_of_le hpl (hWn).size
  replace hWt:=hWt.trans hWn
  clear hSn hWn
  have hva2:va<2:=by omega
  have xs:w2.cell? ⟨X,1,none⟩=some (.int .i64 0):=by simpa using hXr.cellAt 1 (by omega)
  have fs:=hXr.frozenAt 1
  have hXn:=(hXr.stored 1 (.int .i64 (va:Int))).1
  have hRn:(w2.setCell ⟨X,1,none⟩ (.int .i64 (va:Int))).ownsRow w.heap.size 159 3 (.slice (some ⟨w.heap.size,0,none⟩) 1 1) 1 [.int .i64 0,.int .i64 0,.int .i64 0]:=ownsRow_setCell_other hRr (by simp [Value.ownBlock];omega) _
  have hGn:=grownBy_set w2 X 1 (.int .i64 (va:Int))
  have hSn:=hS.grown hGn (fun k e=>by cases e;omega)
  have hWn:Went p w (w2.setCell ⟨X,1,none⟩ (.int .i64 (va:Int))):=hWt.grown hGn (fun k e=>by cases e;omega)
  have hCn:=hC.below (grown_below hGn (show p≤X by omega) (Nat.le_of_lt hpl))
  have hpn:p<(w2.setCell ⟨X,1,none⟩ (.int .i64 (va:Int))).heap.size:=Nat.lt_of_lt_of_le hpl hGn.size
  simp only [List.set_cons_succ,List.set_cons_zero] at hXn
  clear hXr hRr hS hWt hC hpl hGn
  have x0:(w2.setCell ⟨X,1,none⟩ (.int .i64 (va:Int))).cell? ⟨X,0,none⟩=some (.int .i64 5):=by simpa using hXn.cellAt 0 (by omega)
  have x1:(w2.setCell ⟨X,1,none⟩ (.int .i64 (va:Int))).cell? ⟨X,1,none⟩=some (.int .i64 (va:Int)):=by simpa using hXn.cellAt 1 (by omega)
  have x2:(w2.setCell ⟨X,1,none⟩ (.int .i64 (va:Int))).cell? ⟨X,2,none⟩=some (.int .i64 0):=by simpa using hXn.cellAt 2 (by omega)
  have kR0:(w2.setCell ⟨X,1,none⟩ (.int .i64 (va:Int))).cell? ⟨w.heap.size,0,none⟩=some (.int .i64 0):=by simpa using hRn.cellAt 0 (by omega)
  have kR1:(w2.setCell ⟨X,1,none⟩ (.int .i64 (va:Int))).cell? ⟨w.heap.size,1,none⟩=some (.int .i64 0):=by simpa using hRn.cellAt 1 (by omega)
  have kR2:(w2.setCell ⟨X,1,none⟩ (.int .i64 (va:Int))).cell? ⟨w.heap.size,2,none⟩=some (.int .i64 0):=by simpa using hRn.cellAt 2 (by omega)
  have fR0:=hRn.frozenAt 0
  have fR1:=hRn.frozenAt 1
  have fR2:=hRn.frozenAt 2
  have hR9:=(((hRn.stored 0 (.int .i64 5)).1.stored 1 (.int .i64 (va:Int))).1.stored 2 (.int .i64 0)).1
  have g9:=grownBy_tr (grownBy_set (w2.setCell ⟨X,1,none⟩ (.int .i64 (va:Int))) w.heap.size 0 (.int .i64 5)) (grownBy_tr (grownBy_set _ w.heap.size 1 (.int .i64 (va:Int))) (grownBy_set _ w.heap.size 2 (.int .i64 0)))
  have hS9:=(hSn.grown g9 (fun k e=>by cases e;omega)).mono (show _≤T+9 by omega)
  have hW9:=hWn.grown g9 (fun k e=>by cases e;omega)
  clear hRn hXn hSn hWn hCn hpn g9
  go_wp2
  clear kR0 kR1 kR2 fR0 fR1 fR2 x0 x1 x2 xs fs
  generalize (((w2.setCell ⟨X,1,none⟩ (.int .i64 (va:Int))).setCell ⟨w.heap.size,0,none⟩ (.int .i64 5)).setCell ⟨w.heap.size,1,none⟩ (.int .i64 (va:Int))).setCell ⟨w.heap.size,2,none⟩ (.int .i64 0)=w9 at hR9 hS9 hW9
  have k0:w9.cell? ⟨w.heap.size,0,none⟩=some (.int .i64 5):=by simpa using hR9.cellAt 0 (by omega)
  have k1:w9.cell? ⟨w.heap.size,1,none⟩=some (.int .i64 (va:Int)):=by simpa using hR9.cellAt 1 (by omega)
  have k2:w9.cell? ⟨w.heap.size,2,none⟩=some (.int .i64 0):=by simpa using hR9.cellAt 2 (by omega)
  refine bodyPost_ret (by simp [results,Tryz.results115,go_sem,k0,k1,k2];try rfl) rfl ?_
  refine ⟨⟨(5,(va:Int),0),?_,rfl⟩,hS9,hW9⟩
  have ha:va=0∨va=1:=by omega
  refine ⟨?_,?_⟩
  ·rcases ha with rfl | rfl<;>decide
  ·exact drawn_other (by simp)
 ·have hXb:=box3_ (w1) (.int .i64 6) (.int .i64 0) (.int .i64 0) 159 w.heap.size hbs
  have hXr:=hXb
  have hGx:w1.grownBy (w1.alloc (.cells #[.int .i64 6,.int .i64 0,.int .i64 0] 159)) none:=World.grownBy_alloc w1 _ none
  replace hRr:=hRr.alloc (.cells #[.int .i64 6,.int .i64 0,.int .i64 0] 159)
  replace hS:=hS.alloc (.cells #[.int .i64 6,.int .i64 0,.int .i64 0] 159)
  replace hC:=hC.below ((Below.refl p w1).alloc (Nat.le_of_lt hpl) (.cells #[.int .i64 6,.int .i64 0,.int .i64 0] 159))
  replace hWt:=hWt.alloc (.cells #[.int .i64 6,.int .i64 0,.int .i64 0] 159)
  replace hpl:p<(w1.alloc (.cells #[.int .i64 6,.int .i64 0,.int .i64 0] 159)).heap.size:=by simp;omega
  have xk:(w1.alloc (.cells #[.int .i64 6,.int .i64 0,.int .i64 0] 159)).cell? ⟨w1.heap.size,0,none⟩=some (.int .i64 6):=by simp [go_sem]
  clear hXb hGx
  go_wp2_with fail
  clear xk
  generalize w1.alloc (.cells #[.int .i64 6,.int .i64 0,.int .i64 0] 159)=wx at hXr hRr hS hC hWt hpl
  generalize w1.heap.size=X at hXr hbs hbX
  refine (next_any p (T+3) a n cap 2 _ hS hC (by omega) (by omega)).mono ?_
  rintro e w2 ⟨⟨va,hva,rfl⟩,hSn,hWn⟩
  replace hS:=hSn
  replace hRr:=owns_wn hRr hWn hpB
  replace hXr:=owns_wn hXr hWn hpB
  replace hC:=hC.went hWn (Nat.le_of_lt hpl)
  replace hpl:=Nat.lt_of_lt_of_le hpl (hWn).size
  replace hWt:=hWt.trans hWn
  clear hSn hWn
  have hva2:va<2:=by omega
  have xs:w2.cell? ⟨X,1,none⟩=some (.int .i64 0):=by simpa using hXr.cellAt 1 (by omega)
  have fs:=hXr.frozenAt 1
  have hXn:=(hXr.stored 1 (.int .i64 (va:Int))).1
  have hRn:(w2.setCell ⟨X,1,none⟩ (.int .i64 (va:Int))).ownsRow w.heap.size 159 3 (.slice (some ⟨w.heap.size,0,none⟩) 1 1) 1 [.int .i64 0,.int .i64 0,.int .i64 0]:=ownsRow_setCell_other hRr (by simp [Value.ownBlock];omega) _
  have hGn:=grownBy_set w2 X 1 (.int .i64 (va:Int))
  have hSn:=hS.grown hGn (fun k e=>by cases e;omega)
  have hWn:Went p w (w2.setCell ⟨X,1,none⟩ (.int .i64 (va:Int))):=hWt.grown hGn (fun k e=>by cases e;omega)
  have hCn:=hC.below (grown_below hGn (show p≤X by omega) (Nat.le_of_lt hpl))
  have hpn:p<(w2.setCell ⟨X,1,none⟩ (.int .i64 (va:Int))).heap.size:=Nat.lt_of_lt_of_le hpl hGn.size
  simp only [List.set_cons_succ,List.set_cons_zero] at hXn
  clear hXr hRr hS hWt hC hpl hGn
  have x0:(w2.setCell ⟨X,1,none⟩ (.int .i64 (va:Int))).cell? ⟨X,0,none⟩=some (.int .i64 6):=by simpa using hXn.cellAt 0 (by omega)
  have x1:(w2.setCell ⟨X,1,none⟩ (.int .i64 (va:Int))).cell? ⟨X,1,none⟩=some (.int .i64 (va:Int)):=by simpa using hXn.cellAt 1 (by omega)
  have x2:(w2.setCell ⟨X,1,none⟩ (.int .i64 (va:Int))).cell? ⟨X,2,none⟩=some (.int .i64 0):=by simpa using hXn.cellAt 2 (by omega)
  have kR0:(w2.setCell ⟨X,1,none⟩ (.int .i64 (va:Int))).cell? ⟨w.heap.size,0,none⟩=some (.int .i64 0):=by simpa using hRn.cellAt 0 (by omega)
  have kR1:(w2.setCell ⟨X,1,none⟩ (.int .i64 (va:Int))).cell? ⟨w.heap.size,1,none⟩=some (.int .i64 0):=by simpa using hRn.cellAt 1 (by omega)
  have kR2:(w2.setCell ⟨X,1,none⟩ (.int .i64 (va:Int))).cell? ⟨w.heap.size,2,none⟩=some (.int .i64 0):=by simpa using hRn.cellAt 2 (by omega)
  have fR0:=hRn.frozenAt 0
  have fR1:=hRn.frozenAt 1
  have fR2:=hRn.frozenAt 2
  have hR9:=(((hRn.stored 0 (.int .i64 6)).1.stored 1 (.int .i64 (va:Int))).1.stored 2 (.int .i64 0)).1
  have g9:=grownBy_tr (grownBy_set (w2.setCell ⟨X,1,none⟩ (.int .i64 (va:Int))) w.heap.size 0 (.int .i64 6)) (grownBy_tr (grownBy_set _ w.heap.size 1 (.int .i64 (va:Int))) (grownBy_set _ w.heap.size 2 (.int .i64 0)))
  have hS9:=(hSn.grown g9 (fun k e=>by cases e;omega)).mono (show _≤T+9 by omega)
  have hW9:=hWn.grown g9 (fun k e=>by cases e;omega)
  clear hRn hXn hSn hWn hCn hpn g9
  go_wp2
  clear kR0 kR1 kR2 fR0 fR1 fR2 x0 x1 x2 xs fs
  generalize (((w2.setCell ⟨X,1,none⟩ (.int .i64 (va:Int))).setCell ⟨w.heap.size,0,none⟩ (.int .i64 6)).setCell ⟨w.heap.size,1,none⟩ (.int .i64 (va:Int))).setCell ⟨w.heap.size,2,none⟩ (.int .i64 0)=w9 at hR9 hS9 hW9
  have k0:w9.cell? ⟨w.heap.size,0,none⟩=some (.int .i64 6):=by simpa using hR9.cellAt 0 (by omega)
  have k1:w9.cell? ⟨w.heap.size,1,none⟩=some (.int .i64 (va:Int)):=by simpa using hR9.cellAt 1 (by omega)
  have k2:w9.cell? ⟨w.heap.size,2,none⟩=some (.int .i64 0):=by simpa using hR9.cellAt 2 (by omega)
  refine bodyPost_ret (by simp [results,Tryz.results115,go_sem,k0,k1,k2];try rfl) rfl ?_
  refine ⟨⟨(6,(va:Int),0),?_,rfl⟩,hS9,hW9⟩
  have ha:va=0∨va=1:=by omega
  refine ⟨?_,?_⟩
  ·rcases ha with rfl | rfl<;>decide
  ·exact drawn_other (by simp)
 ·have hXb:=box3_ (w1) (.int .i64 7) (.int .i64 0) (.int .i64 0) 159 w.heap.size hbs
  have hXr:=hXb
  have hGx:w1.grownBy (w1.alloc (.cells #[.int .i64 7,.int .i64 0,.int .i64 0] 159)) none:=World.grownBy_alloc w1 _ none
  replace hRr:=hRr.alloc (.cells #[.int .i64 7,.int .i64 0,.int .i64 0] 159)
  replace hS:=hS.alloc (.cells #[.int .i64 7,.int .i64 0,.int .i64 0] 159)
  replace hC:=hC.below ((Below.refl p w1).alloc (Nat.le_of_lt hpl) (.cells #[.int .i64 7,.int .i64 0,.int .i64 0] 159))
  replace hWt:=hWt.alloc (.cells #[.int .i64 7,.int .i64 0,.int .i64 0] 159)
  replace hpl:p<(w1.alloc (.cells #[.int .i64 7,.int .i64 0,.int .i64 0] 159)).heap.size:=by simp;omega
  have xk:(w1.alloc (.cells #[.int .i64 7,.int .i64 0,.int .i64 0] 159)).cell? ⟨w1.heap.size,0,none⟩=some (.int .i64 7):=by simp [go_sem]
  clear hXb hGx
  go_wp2_with fail
  clear xk
  generalize w1.alloc (.cells #[.int .i64 7,.int .i64 0,.int .i64 0] 159)=wx at hXr hRr hS hC hWt hpl
  generalize w1.heap.size=X at hXr hbs hbX
  refine (next_any p (T+3) a n cap 2 _ hS hC (by omega) (by omega)).mono ?_
  rintro e w2 ⟨⟨va,hva,rfl⟩,hSn,hWn⟩
  replace hS:=hSn
  replace hRr:=owns_wn hRr hWn hpB
  replace hXr:=owns_wn hXr hWn hpB
  replace hC:=hC.went hWn (Nat.le_of_lt hpl)
  replace hpl:=Nat.lt_of_lt_of_le hpl (hWn).size
  replace hWt:=hWt.trans hWn
  clear hSn hWn
  have hva2:va<2:=by omega
  have xs:w2.cell? ⟨X,1,none⟩=some (.int .i64 0):=by simpa using hXr.cellAt 1 (by omega)
  have fs:=hXr.frozenAt 1
  have hXn:=(hXr.stored 1 (.int .i64 (va:Int))).1
  have hRn:(w2.setCell ⟨X,1,none⟩ (.int .i64 (va:Int))).ownsRow w.heap.size 159 3 (.slice (some ⟨w.heap.size,0,none⟩) 1 1) 1 [.int .i64 0,.int .i64 0,.int .i64 0]:=ownsRow_setCell_other hRr (by simp [Value.ownBlock];omega) _
  have hGn:=grownBy_set w2 X 1 (.int .i64 (va:Int))
  have hSn:=hS.grown hGn (fun k e=>by cases e;omega)
  have hWn:Went p w (w2.setCell ⟨X,1,none⟩ (.int .i64 (va:Int))):=hWt.grown hGn (fun k e=>by cases e;omega)
  have hCn:=hC.below (grown_below hGn (show p≤X by omega) (Nat.le_of_lt hpl))
  have hpn:p<(w2.setCell ⟨X,1,none⟩ (.int .i64 (va:Int))).heap.size:=Nat.lt_of_lt_of_le hpl hGn.size
  simp only [List.set_cons_succ,List.set_cons_zero] at hXn
  clear hXr hRr hS hWt hC hpl hGn
  go_wp2_with fail
  clear xs fs
  generalize w2.setCell ⟨X,1,none⟩ (.int .i64 (va:Int))=w3 at hXn hRn hSn hWn hCn hpn
  have hXr:=hXn
  have hRr:=hRn
  have hS:=hSn
  have hWt:=hWn
  have hC:=hCn
  have hpl:=hpn
  clear hXn hRn hSn hWn hCn hpn
  refine (next_any p (T+3+3) a n cap ((nn:Int) - (at0:Int)) _ hS hC (by omega) (by omega)).mono ?_
  rintro e w4 ⟨⟨vb,hvb,rfl⟩,hSn,hWn⟩
  replace hS:=hSn
  replace hRr:=owns_wn hRr hWn hpB
  replace hXr:=owns_wn hXr hWn hpB
  replace hC:=hC.went hWn (Nat.le_of_lt hpl)
  replace hpl:=Nat.lt_of_lt_of_le hpl (hWn).size
  replace hWt:=hWt.trans hWn
  clear hSn hWn
  obtain ⟨vt,hvt⟩:∃ vt:Nat,(at0:Int)+1+(vb:Int)=(vt:Int):=⟨at0+1+vb,by omega⟩
  have hvt1:at0+1≤vt:=by omega
  have hvt2:vt≤nn:=by omega
  have xs:w4.cell? ⟨X,2,none⟩=some (.int .i64 0):=by simpa using hXr.cellAt 2 (by omega)
  have fs:=hXr.frozenAt 2
  have hXn:=(hXr.stored 2 (.int .i64 (vt:Int))).1
  have hRn:(w4.setCell ⟨X,2,none⟩ (.int .i64 (vt:Int))).ownsRow w.heap.size 159 3 (.slice (some ⟨w.heap.size,0,none⟩) 1 1) 1 [.int .i64 0,.int .i64 0,.int .i64 0]:=ownsRow_setCell_other hRr (by simp [Value.ownBlock];omega) _
  have hGn:=grownBy_set w4 X 2 (.int .i64 (vt:Int))
  have hSn:=hS.grown hGn (fun k e=>by cases e;omega)
  have hWn:Went p w (w4.setCell ⟨X,2,none⟩ (.int .i64 (vt:Int))):=hWt.grown hGn (fun k e=>by cases e;omega)
  have hCn:=hC.below (grown_below hGn (show p≤X by omega) (Nat.le_of_lt hpl))
  have hpn:p<(w4.setCell ⟨X,2,none⟩ (.int .i64 (vt:Int))).heap.size:=Nat.lt_of_lt_of_le hpl hGn.size
  simp only [List.set_cons_succ,List.set_cons_zero] at hXn
  clear hXr hRr hS hWt hC hpl hGn
  have x0:(w4.setCell ⟨X,2,none⟩ (.int .i64 (vt:Int))).cell? ⟨X,0,none⟩=some (.int .i64 7):=by simpa using hXn.cellAt 0 (by omega)
  have x1:(w4.setCell ⟨X,2,none⟩ (.int .i64 (vt:Int))).cell? ⟨X,1,none⟩=some (.int .i64 (va:Int)):=by simpa using hXn.cellAt 1 (by omega)
  have x2:(w4.setCell ⟨X,2,none⟩ (.int .i64 (vt:Int))).cell? ⟨X,2,none⟩=some (.int .i64 (vt:Int)):=by simpa using hXn.cellAt 2 (by omega)
  have kR0:(w4.setCell ⟨X,2,none⟩ (.int .i64 (vt:Int))).cell? ⟨w.heap.size,0,none⟩=some (.int .i64 0):=by simpa using hRn.cellAt 0 (by omega)
  have kR1:(w4.setCell ⟨X,2,none⟩ (.int .i64 (vt:Int))).cell? ⟨w.heap.size,1,none⟩=some (.int .i64 0):=by simpa using hRn.cellAt 1 (by omega)
  have kR2:(w4.setCell ⟨X,2,none⟩ (.int .i64 (vt:Int))).cell? ⟨w.heap.size,2,none⟩=some (.int .i64 0):=by simpa using hRn.cellAt 2 (by omega)
  have fR0:=hRn.frozenAt 0
  have fR1:=hRn.frozenAt 1
  have fR2:=hRn.frozenAt 2
  have hR9:=(((hRn.stored 0 (.int .i64 7)).1.stored 1 (.int .i64 (va:Int))).1.stored 2 (.int .i64 (vt:Int))).1
  have g9:=grownBy_tr (grownBy_set (w4.setCell ⟨X,2,none⟩ (.int .i64 (vt:Int))) w.heap.size 0 (.int .i64 7)) (grownBy_tr (grownBy_set _ w.heap.size 1 (.int .i64 (va:Int))) (grownBy_set _ w.heap.size 2 (.int .i64 (vt:Int))))
  have hS9:=(hSn.grown g9 (fun k e=>by cases e;omega)).mono (show _≤T+9 by omega)
  have hW9:=hWn.grown g9 (fun k e=>by cases e;omega)
  clear hRn hXn hSn hWn hCn hpn g9
  go_wp2
  clear kR0 kR1 kR2 fR0 fR1 fR2 x0 x1 x2 xs fs
  generalize (((w4.setCell ⟨X,2,none⟩ (.int .i64 (vt:Int))).setCell ⟨w.heap.size,0,none⟩ (.int .i64 7)).setCell ⟨w.heap.size,1,none⟩ (.int .i64 (va:Int))).setCell ⟨w.heap.size,2,none⟩ (.int .i64 (vt:Int))=w9 at hR9 hS9 hW9
  have k0:w9.cell? ⟨w.heap.size,0,none⟩=some (.int .i64 7):=by simpa using hR9.cellAt 0 (by omega)
  have k1:w9.cell? ⟨w.heap.size,1,none⟩=some (.int .i64 (va:Int)):=by simpa using hR9.cellAt 1 (by omega)
  have k2:w9.cell? ⟨w.heap.size,2,none⟩=some (.int .i64 (vt:Int)):=by simpa using hR9.cellAt 2 (by omega)
  refine bodyPost_ret (by simp [results,Tryz.results115,go_sem,k0,k1,k2];try rfl) rfl ?_
  refine ⟨⟨(7,(va:Int),(vt:Int)),?_,rfl⟩,hS9,hW9⟩
  have ha:va=0∨va=1:=by omega
  have hb:vt=1∨vt=2∨vt=3:=by omega
  refine ⟨?_,?_⟩
  ·rcases ha with rfl | rfl<;>rcases hb with rfl | rfl | rfl<;>decide
  ·exact drawn_leads hvt1 hvt2
 ·have hXb:=box3_ (w1) (.int .i64 8) (.int .i64 0) (.int .i64 0) 159 w.heap.size hbs
  have hXr:=hXb
  have hGx:w1.grownBy (w1.alloc (.cells #[.int .i64 8,.int .i64 0,.int .i64 0] 159)) none:=World.grownBy_alloc w1 _ none
  replace hRr:=hRr.alloc (.cells #[.int .i64 8,.int .i64 0,.int .i64 0] 159)
  replace hS:=hS.alloc (.cells #[.int .i64 8,.int .i64 0,.int .i64 0] 159)
  replace hC:=hC.below ((Below.refl p w1).alloc (Nat.le_of_lt hpl) (.cells #[.int .i64 8,.int .i64 0,.int .i64 0] 159))
  replace hWt:=hWt.alloc (.cells #[.int .i64 8,.int .i64 0,.int .i64 0] 159)
  replace hpl:p<(w1.alloc (.cells #[.int .i64 8,.int .i64 0,.int .i64 0] 159)).heap.size:=by simp;omega
  have xk:(w1.alloc (.cells #[.int .i64 8,.int .i64 0,.int .i64 0] 159)).cell? ⟨w1.heap.size,0,none⟩=some (.int .i64 8):=by simp [go_sem]
  clear hXb hGx
  go_wp2_with fail
  clear xk
  generalize w1.alloc (.cells #[.int .i64 8,.int .i64 0,.int .i64 0] 159)=wx at hXr hRr hS hC hWt hpl
  generalize w1.heap.size=X at hXr hbs hbX
  refine (next_any p (T+3) a n cap 2 _ hS hC (by omega) (by omega)).mono ?_
  rintro e w2 ⟨⟨va,hva,rfl⟩,hSn,hWn⟩
  replace hS:=hSn
  replace hRr:=owns_wn hRr hWn hpB
  replace hXr:=owns_wn hXr hWn hpB
  replace hC:=hC.went hWn (Nat.le_of_lt hpl)
  replace hpl:=Nat.lt_of_lt_of_le hpl (hWn).size
  replace hWt:=hWt.trans hWn
  clear hSn hWn
  have hva2:va<2:=by omega
  have xs:w2.cell? ⟨X,1,none⟩=some (.int .i64 0):=by simpa using hXr.cellAt 1 (by omega)
  have fs:=hXr.frozenAt 1
  have hXn:=(hXr.stored 1 (.int .i64 (va:Int))).1
  have hRn:(w2.setCell ⟨X,1,none⟩ (.int .i64 (va:Int))).ownsRow w.heap.size 159 3 (.slice (some ⟨w.heap.size,0,none⟩) 1 1) 1 [.int .i64 0,.int .i64 0,.int .i64 0]:=ownsRow_setCell_other hRr (by simp [Value.ownBlock];omega) _
  have hGn:=grownBy_set w2 X 1 (.int .i64 (va:Int))
  have hSn:=hS.grown hGn (fun k e=>by cases e;omega)
  have hWn:Went p w (w2.setCell ⟨X,1,none⟩ (.int .i64 (va:Int))):=hWt.grown hGn (fun k e=>by cases e;omega)
  have hCn:=hC.below (grown_below hGn (show p≤X by omega) (Nat.le_of_lt hpl))
  have hpn:p<(w2.setCell ⟨X,1,none⟩ (.int .i64 (va:Int))).heap.size:=Nat.lt_of_lt_of_le hpl hGn.size
  simp only [List.set_cons_succ,List.set_cons_zero] at hXn
  clear hXr hRr hS hWt hC hpl hGn
  go_wp2_with fail
  clear xs fs
  generalize w2.setCell ⟨X,1,none⟩ (.int .i64 (va:Int))=w3 at hXn hRn hSn hWn hCn hpn
  have hXr:=hXn
  have hRr:=hRn
  have hS:=hSn
  have hWt:=hWn
  have hC:=hCn
  have hpl:=hpn
  clear hXn hRn hSn hWn hCn hpn
  refine (next_any p (T+3+3) a n cap 3 _ hS hC (by omega) (by omega)).mono ?_
  rintro e w4 ⟨⟨vb,hvb,rfl⟩,hSn,hWn⟩
  replace hS:=hSn
  replace hRr:=owns_wn hRr hWn hpB
  replace hXr:=owns_wn hXr hWn hpB
  replace hC:=hC.went hWn (Nat.le_of_lt hpl)
  replace hpl:=Nat.lt_of_lt_of_le hpl (hWn).size
  replace hWt:=hWt.trans hWn
  clear hSn hWn
  have hvb2:vb<3:=by omega
  have xs:w4.cell? ⟨X,2,none⟩=some (.int .i64 0):=by simpa using hXr.cellAt 2 (by omega)
  have fs:=hXr.frozenAt 2
  have hXn:=(hXr.stored 2 (.int .i64 (vb:Int))).1
  have hRn:(w4.setCell ⟨X,2,none⟩ (.int .i64 (vb:Int))).ownsRow w.heap.size 159 3 (.slice (some ⟨w.heap.size,0,none⟩) 1 1) 1 [.int .i64 0,.int .i64 0,.int .i64 0]:=ownsRow_setCell_other hRr (by simp [Value.ownBlock];omega) _
  have hGn:=grownBy_set w4 X 2 (.int .i64 (vb:Int))
  have hSn:=hS.grown hGn (fun k e=>by cases e;omega)
  have hWn:Went p w (w4.setCell ⟨X,2,none⟩ (.int .i64 (vb:Int))):=hWt.grown hGn (fun k e=>by cases e;omega)
  have hCn:=hC.below (grown_below hGn (show p≤X by omega) (Nat.le_of_lt hpl))
  have hpn:p<(w4.setCell ⟨X,2,none⟩ (.int .i64 (vb:Int))).heap.size:=Nat.lt_of_lt_of_le hpl hGn.size
  simp only [List.set_cons_succ,List.set_cons_zero] at hXn
  clear hXr hRr hS hWt hC hpl hGn
  have x0:(w4.setCell ⟨X,2,none⟩ (.int .i64 (vb:Int))).cell? ⟨X,0,none⟩=some (.int .i64 8):=by simpa using hXn.cellAt 0 (by omega)
  have x1:(w4.setCell ⟨X,2,none⟩ (.int .i64 (vb:Int))).cell? ⟨X,1,none⟩=some (.int .i64 (va:Int)):=by simpa using hXn.cellAt 1 (by omega)
  have x2:(w4.setCell ⟨X,2,none⟩ (.int .i64 (vb:Int))).cell? ⟨X,2,none⟩=some (.int .i64 (vb:Int)):=by simpa using hXn.cellAt 2 (by omega)
  have kR0:(w4.setCell ⟨X,2,none⟩ (.int .i64 (vb:Int))).cell? ⟨w.heap.size,0,none⟩=some (.int .i64 0):=by simpa using hRn.cellAt 0 (by omega)
  have kR1:(w4.setCell ⟨X,2,none⟩ (.int .i64 (vb:Int))).cell? ⟨w.heap.size,1,none⟩=some (.int .i64 0):=by simpa using hRn.cellAt 1 (by omega)
  have kR2:(w4.setCell ⟨X,2,none⟩ (.int .i64 (vb:Int))).cell? ⟨w.heap.size,2,none⟩=some (.int .i64 0):=by simpa using hRn.cellAt 2 (by omega)
  have fR0:=hRn.frozenAt 0
  have fR1:=hRn.frozenAt 1
  have fR2:=hRn.frozenAt 2
  have hR9:=(((hRn.stored 0 (.int .i64 8)).1.stored 1 (.int .i64 (va:Int))).1.stored 2 (.int .i64 (vb:Int))).1
  have g9:=grownBy_tr (grownBy_set (w4.setCell ⟨X,2,none⟩ (.int .i64 (vb:Int))) w.heap.size 0 (.int .i64 8)) (grownBy_tr (grownBy_set _ w.heap.size 1 (.int .i64 (va:Int))) (grownBy_set _ w.heap.size 2 (.int .i64 (vb:Int))))
  have hS9:=(hSn.grown g9 (fun k e=>by cases e;omega)).mono (show _≤T+9 by omega)
  have hW9:=hWn.grown g9 (fun k e=>by cases e;omega)
  clear hRn hXn hSn hWn hCn hpn g9
  go_wp2
  clear kR0 kR1 kR2 fR0 fR1 fR2 x0 x1 x2 xs fs
  generalize (((w4.setCell ⟨X,2,none⟩ (.int .i64 (vb:Int))).setCell ⟨w.heap.size,0,none⟩ (.int .i64 8)).setCell ⟨w.heap.size,1,none⟩ (.int .i64 (va:Int))).setCell ⟨w.heap.size,2,none⟩ (.int .i64 (vb:Int))=w9 at hR9 hS9 hW9
  have k0:w9.cell? ⟨w.heap.size,0,none⟩=some (.int .i64 8):=by simpa using hR9.cellAt 0 (by omega)
  have k1:w9.cell? ⟨w.heap.size,1,none⟩=some (.int .i64 (va:Int)):=by simpa using hR9.cellAt 1 (by omega)
  have k2:w9.cell? ⟨w.heap.size,2,none⟩=some (.int .i64 (vb:Int)):=by simpa using hR9.cellAt 2 (by omega)
  refine bodyPost_ret (by simp [results,Tryz.results115,go_sem,k0,k1,k2];try rfl) rfl ?_
  refine ⟨⟨(8,(va:Int),(vb:Int)),?_,rfl⟩,hS9,hW9⟩
  have ha:va=0∨va=1:=by omega
  have hb:vb=0∨vb=1∨vb=2:=by omega
  refine ⟨?_,?_⟩
  ·rcases ha with rfl | rfl<;>rcases hb with rfl | rfl | rfl<;>decide
  ·exact drawn_other (by show (8:Int)≠7;decide)


theorem l01In_yes (n a b:Int) (w:World) (h:a≤n∧n≤b):Calls Tryz.prog 131 #[.int .i64 n,.int .i64 a,.int .i64 b] w fun e w'=>e=.returned (.bool true)∧w=w':=by
 obtain ⟨h1,h2⟩:=h
 go_enter Tryz.func131,Tryz.ntmps131
 go_wp2
 go_ret
 exact ⟨rfl,rfl⟩
theorem l01In_no (n a b:Int) (w:World) (h:¬ (a≤n∧n≤b)):Calls Tryz.prog 131 #[.int .i64 n,.int .i64 a,.int .i64 b] w fun e w'=>e=.returned (.bool false)∧w=w':=by
 by_cases h1:a≤n
 ·have h2:decide (n≤b)=false:=by simp;omega
  clear h
  go_enter Tryz.func131,Tryz.ntmps131
  go_wp2
  go_ret
  exact ⟨rfl,rfl⟩
 ·clear h
  go_enter Tryz.func131,Tryz.ntmps131
  go_wp2
  go_ret
  exact ⟨rfl,rfl⟩

end Go.Proofs.YtifoggpohlegmaaGreatDoor
