/-
  Joined: EokI, MokI, KpsI.
-/
import Derived.Test.YtnffeclgboomoaaGreatDoorR30
import Derived.Test.YtnffeclgboomoaaGreatDoorR32
import Derived.Test.YtnffeclgboomoaaGreatDoorR33

namespace Go.Proofs.YtnffeclgboomoaaGreatDoor
set_option maxRecDepth 100000
set_option maxHeartbeats 16000000
open Go.RowKit
set_option linter.unusedVariables false
set_option linter.unusedSimpArgs false

theorem NB (xs:List I3):VZ xs=(TV xs && upB xs):=by
 rw [Bool.eq_iff_iff]
 simp only [VZ,TV,upB,Bool.and_eq_true,List.all_eq_true,List.mem_range,MU,stB]
 constructor
 ·intro h
  refine ⟨fun x hx=>?_,fun i hi=>(h i hi).2⟩
  obtain ⟨t,ht,rfl⟩:=List.getElem_of_mem hx
  have:=(h t ht).1
  simpa [List.getD,List.getElem?_eq_getElem ht] using this
 rintro ⟨h1,h2⟩ i hi
 exact ⟨h1 _ (by simp [List.getD,List.getElem?_eq_getElem hi]),h2 i hi⟩
theorem ND (xs:List Int):St xs=(WB xs && upI xs):=by
 rw [Bool.eq_iff_iff]
 simp only [St,WB,upI,Bool.and_eq_true,List.all_eq_true,List.mem_range,P1,stI]
 constructor
 ·intro h
  refine ⟨fun x hx=>?_,fun i hi=>(h i hi).2⟩
  obtain ⟨t,ht,rfl⟩:=List.getElem_of_mem hx
  have:=(h t ht).1
  simpa [List.getD,List.getElem?_eq_getElem ht] using this
 rintro ⟨h1,h2⟩ i hi
 exact ⟨h1 _ (by simp [List.getD,List.getElem?_eq_getElem hi]),h2 i hi⟩
def S0 (es:List E3):Bool:=es.all Ve
theorem Ly {es:List E3} {k:Nat} (h:k<es.length):S0 (es.drop k)=(Ve (es.getD k e3d) && S0 (es.drop (k+1))):=by
 unfold S0
 rw [List.drop_eq_getElem_cons h,List.all_cons]
 simp [List.getD,List.getElem?_eq_getElem h]
theorem Nl (es:List E3):Y5 es=(decide (es.length≤2000) && (S0 es && upE es)):=by
 rw [Bool.eq_iff_iff]
 simp only [Y5,S0,upE,Bool.and_eq_true,List.all_eq_true,List.mem_range,Nj,stE]
 constructor
 ·rintro ⟨h,h2⟩
  refine ⟨h2,fun x hx=>?_,fun i hi=>(h i hi).2⟩
  obtain ⟨t,ht,rfl⟩:=List.getElem_of_mem hx
  have:=(h t ht).1
  simpa [List.getD,List.getElem?_eq_getElem ht] using this
 rintro ⟨h0,h1,h2⟩
 exact ⟨fun i hi=>⟨h1 _ (by simp [List.getD,List.getElem?_eq_getElem hi]),h2 i hi⟩,h0⟩

theorem Jg (a:Option Addr) (n cap:Nat) (Z:List Int) (w:World) (h:Yi .i64 w a n cap Z) (hw:wfs Z) :
  Calls Tryz.prog 51 #[.slice a n cap] w fun e w'=>e=.returned (.bool (WB Z))∧w=w':=by
 have hl:=h.1
 have hn:n≤maxLen:=Nat.le_trans h.2.1 h.2.2.1
 unfold maxLen at hn
 obtain ⟨r,hr⟩:∃ r,r=WB Z:=⟨_,rfl⟩
 rw [← hr]
 have HR:Hid (r=WB (Z.drop 0)):=by rw [Hid];simpa using hr
 clear hr
 go_enter Tryz.func51,Tryz.ntmps51
 go_wp2_with fail
 go_loopw [7] (fun si wr=>∃ k:Nat,k≤n∧si=.int .i64 k∧Hid (r=WB (Z.drop k))∧w=wr) (fun si _=>n - (Go.RowKit.intOf si).toNat)
 case atStart=>exact ⟨0,by omega,rfl,HR,rfl⟩
 case round =>
  clear HR
  obtain ⟨k,hk,rfl,HR,rfl⟩:=hrel
  by_cases hlt:k<n
  ·have hm:=N0 (xs:=Z) (k:=k) (by omega)
   have hx:=hw (Z.getD k 0) (by simp [List.getD,List.getElem?_eq_getElem (show k<Z.length by omega)])
   obtain ⟨_,_,_,hcase⟩:=h
   rcases hcase with e0 | ⟨b,off,rfl,hb,hc⟩
   ·omega
   have d0:=hc k hlt
   clear hc hb
   generalize Z.getD k 0=x at d0 hm hx
   have kO:=LV x (Gz hx)
   clear hx
   have HM:Hid (WB (Z.drop k)=(XO x && WB (Z.drop (k+1)))):=hm
   clear hm
   have hlt':(k:Int)<(n:Int):=by omega
   have hk0:(0:Int)≤(k:Int):=by omega
   cases hE:XO x
   ·rw [hE] at kO
    have HF:Hid (r=false):=by rw [Hid,HR.out,HM.out,hE];rfl
    clear HM HR hE
    go_wp2_with fail
    refine (kO _).mono ?_
    rintro e w1 ⟨rfl,rfl⟩
    go_wp2
    go_ret
    exact ⟨by rw [HF.out];rfl,rfl⟩
   rw [hE] at kO
   have HF:Hid (r=WB (Z.drop (k+1))):=by rw [Hid,HR.out,HM.out,hE];rfl
   clear HM HR hE
   go_wp2_with fail
   refine (kO _).mono ?_
   rintro e w1 ⟨rfl,rfl⟩
   go_wp2
   go_roundw
   case rel=>exact ⟨k+1,by omega,by go_num,HF,by first | rfl | trivial⟩
   case measure=>simp [Go.RowKit.intOf];omega
  obtain rfl:k=n:=by omega
  have HF:Hid (r=true):=by rw [Hid,HR.out,List.drop_of_length_le (by omega)];rfl
  clear HR
  go_wp2
  go_ret
  exact ⟨by rw [HF.out];rfl,rfl⟩

theorem Rh (s:ByteArray) (w:World) (hs:s.size≤maxLen) (h:65536<s.size) :
  Calls Tryz.prog 112 #[.string s] w fun e w'=>e=.returned (.tuple #[.agg #[.slice none 0 0,.slice none 0 0,.slice none 0 0,.slice none 0 0],.int .i64 2])∧Below w.heap.size w w':=by
 unfold maxLen at hs
 have h2:(65536:Int)<(s.size:Int):=by omega
 go_enter Tryz.func112,Tryz.ntmps112
 go_wp2
 refine bodyPost_ret (Zz Tryz.results112 _ _ _ _ _ _ rfl (Blk.new w 112 [.slice none 0 0,.slice none 0 0,.slice none 0 0,.slice none 0 0]) Tryz.underlying112 rfl (by kernel_rfl)) rfl ?_
 exact ⟨rfl,by go_grown⟩
def GJ (s:ByteArray) (c:Int):Prop:=(WH s=true∧c=0)∨(WH s=false∧(c=2∨c=3))
theorem Pm (s:ByteArray) (w:World) (hs:s.size≤maxLen) (hV:Z0 w) :
  Calls Tryz.prog 112 #[.string s] w fun e w'=>(∃ z c,GJ s c∧Yo e w' w.heap.size z c)∧Below w.heap.size w w':=by
 by_cases hl:65536<s.size
 ·refine (Rh s w hs hl).mono ?_
  rintro e w' ⟨rfl,hb⟩
  have e9:WH s=false:=by unfold WH;rw [decide_eq_false (by omega)];rfl
  exact ⟨⟨_,2,.inr ⟨e9,.inl rfl⟩,Yo.mk9 ((none,0,0),(none,0,0),(none,0,0),(none,0,0)) rfl (Tm _ _)⟩,hb⟩
 refine (P4 s w (by omega) hV).mono ?_
 rintro e w' ⟨hg,hb⟩
 refine ⟨⟨_,_,?_,hg⟩,hb⟩
 unfold GJ JY WH
 rw [if_neg hl]
 by_cases h15:s.size=15
 ·rw [if_neg (fun h=>h h15),decide_eq_true h15,Bool.true_and]
  cases Zh (XL s)
  ·exact .inr ⟨rfl,.inr rfl⟩
  exact .inl ⟨rfl,rfl⟩
 rw [if_pos h15,decide_eq_false h15,Bool.false_and]
 exact .inr ⟨rfl,.inr rfl⟩

theorem S9 (a:Option Addr) (n cap:Nat) (xs:List I3) (w:World) (h:Zm w a n cap xs) :
  Calls Tryz.prog 113 #[.slice a n cap] w fun e w'=>e=.returned (.bool (decide (xs.length≤30) && VZ xs))∧Below w.heap.size w w':=by
 rw [NB]
 have hl:=h.1
 have kR:=fun W (hb:Below w.heap.size w W)=>Ky a n cap xs W (h.below hb)
 rw [hl]
 by_cases h30:n≤30
 ·have kB:=LA a n cap xs w h (by omega)
  rw [decide_eq_true h30,Bool.true_and]
  have h3:(n:Int)≤30:=by omega
  generalize upB xs=u at *
  cases hO:TV xs
  ·rw [hO] at kB
   rw [Bool.false_and]
   clear hO
   go_enter Tryz.func113,Tryz.ntmps113
   go_wp2_with fail
   refine kB.mono ?_
   rintro e w1 ⟨rfl,hb⟩
   go_wp2
   go_ret
   exact ⟨rfl,hb⟩
  rw [hO] at kB
  rw [Bool.true_and]
  clear hO
  go_enter Tryz.func113,Tryz.ntmps113
  go_wp2_with fail
  refine kB.mono ?_
  rintro e w1 ⟨rfl,hb⟩
  go_wp2_with fail
  refine (kR _ hb).mono ?_
  rintro e w2 ⟨rfl,hb2⟩
  replace hb:=Zn hb hb2
  go_wp2
  go_ret
  exact ⟨rfl,hb⟩
 rw [decide_eq_false h30,Bool.false_and]
 have h3:¬ (n:Int)≤30:=by omega
 clear kR
 go_enter Tryz.func113,Tryz.ntmps113
 go_wp2
 go_ret
 exact ⟨rfl,Below.refl _ _⟩

theorem Rg (e:E3) (s:Sl2) (w:World) (h:YI w s e) (hV:Z0 w) :
  Calls Tryz.prog 60 #[ZM e.1 s] w fun x w'=>x=.returned (.bool (Ve e))∧Below w.heap.size w w':=by
 obtain ⟨⟨hk,_⟩,hB,hF,hfw⟩:=h
 obtain ⟨ek,eb,ez⟩:=e
 obtain ⟨⟨a1,n1,c1⟩,⟨a2,n2,c2⟩⟩:=s
 unfold ZM
 simp only at *
 have bw:Below w.heap.size w (w.alloc (.cells #[.string ek,.slice a1 n1 c1,.slice a2 n2 c2] 45)):=by go_grown
 have kK:=Pm ek _ hk (hV.below bw)
 have kR:=fun W (hb:Below w.heap.size w W)=>S9 a1 n1 c1 eb W (hB.below hb)
 have kI:=fun W (hb:Below w.heap.size w W)=>Jg a2 n2 c2 ez W (hF.below hb) hfw
 have kU:=fun W (hb:Below w.heap.size w W)=>KA a2 n2 c2 ez W (hF.below hb)
 have pA:Blk (w.alloc (.cells #[.string ek,.slice a1 n1 c1,.slice a2 n2 c2] 45)) w.heap.size 45 [.string ek,.slice a1 n1 c1,.slice a2 n2 c2]:=Zj _ _ _ rfl
 obtain ⟨fin,hfin⟩:∃ fin,fin=Ve (ek,eb,ez):=⟨_,rfl⟩
 rw [← hfin]
 have HF:Hid (fin=(WH ek && (decide (eb.length≤30) && VZ eb) && (WB ez && upI ez))):=by
  rw [Hid,hfin,Ve]
  simp only
  rw [ND]
  cases WH ek<;>cases VZ eb<;>cases WB ez<;>cases upI ez<;>simp
 clear hfin hB hF hfw hV
 generalize (decide (eb.length≤30) && VZ eb)=rb at *
 generalize WB ez=ai at *
 generalize upI ez=ui at *
 go_enter Tryz.func60,Tryz.ntmps60
 go_wp2_with fail
 refine kK.mono ?_
 rintro x w1 ⟨⟨z,c,hc,⟨⟨t0a,t0n,t0c⟩,⟨t1a,t1n,t1c⟩,⟨t2a,t2n,t2c⟩,⟨t3a,t3n,t3c⟩⟩,rfl,_⟩,hb⟩
 have ut:S4.val ((t0a,t0n,t0c),(t1a,t1n,t1c),(t2a,t2n,t2c),(t3a,t3n,t3c))=.agg #[.slice t0a t0n t0c,.slice t1a t1n t1c,.slice t2a t2n t2c,.slice t3a t3n t3c]:=rfl
 rw [ut]
 clear ut kK
 have bA:Below w1.heap.size w1 (w1.alloc (.cells #[.slice t0a t0n t0c,.slice t1a t1n t1c,.slice t2a t2n t2c,.slice t3a t3n t3c] 112)):=by go_grown
 replace bw:=Zn bw (Zn hb bA)
 replace pA:=pA.below (Zn hb bA)
 clear hb bA
 have y1:=pA.cell 1
 simp only [List.getElem?_cons_zero,List.getElem?_cons_succ] at y1
 rcases hc with ⟨hK,rfl⟩ | ⟨hK,hc⟩
 ·rw [hK,Bool.true_and] at HF
  clear hK
  go_wp2_with fail
  generalize (w1.alloc (.cells #[.slice t0a t0n t0c,.slice t1a t1n t1c,.slice t2a t2n t2c,.slice t3a t3n t3c] 112))=U at *
  refine (kR _ bw).mono ?_
  rintro x w2 ⟨rfl,hb⟩
  replace bw:=Zn bw hb
  replace pA:=pA.below hb
  clear hb kR y1
  have y2:=pA.cell 2
  simp only [List.getElem?_cons_zero,List.getElem?_cons_succ] at y2
  cases rb
  ·have HR:Hid (fin=false):=HF.out
   clear HF kI kU
   go_wp2
   go_ret
   exact ⟨by rw [HR.out];rfl,bw⟩
  rw [Bool.true_and] at HF
  go_wp2_with fail
  refine (kI _ bw).mono ?_
  rintro x w3 ⟨rfl,rfl⟩
  cases ai
  ·have HR:Hid (fin=false):=HF.out
   clear HF kI kU
   go_wp2
   go_ret
   exact ⟨by rw [HR.out];rfl,bw⟩
  rw [Bool.true_and] at HF
  go_wp2_with fail
  refine (kU _ bw).mono ?_
  rintro x w4 ⟨rfl,hb⟩
  replace bw:=Zn bw hb
  clear hb kI kU y2 pA
  go_wp2
  go_ret
  exact ⟨by rw [HF.out];rfl,bw⟩
 have HR:Hid (fin=false):=by rw [Hid,HF.out,hK];rfl
 clear HF hK kR kI kU
 rcases hc with rfl | rfl
 ·go_wp2
  go_ret
  exact ⟨by rw [HR.out];rfl,bw⟩
 go_wp2
 go_ret
 exact ⟨by rw [HR.out];rfl,bw⟩


theorem Pu (a:Option Addr) (n cap:Nat) (w:World) :
  Calls Tryz.prog 74 #[.agg #[.slice a n cap]] w fun e w'=>e=.returned (.agg #[.slice a n cap])∧Below w.heap.size w w':=by
 have pR:Blk ((w.alloc (.cells #[.slice a n cap] 33)).alloc (.cells #[.slice none 0 0] 140)) (w.heap.size+1) 140 [.slice none 0 0]:=Zj _ _ _ (by simp)
 have r0:=pR.cell 0
 have fr0:=pR.frozen 0
 have pZ:=pR.set 0 (.slice a n cap)
 simp only [List.set_cons_zero] at pZ
 have z0:=pZ.cell 0
 simp only [List.getElem?_cons_zero] at z0 r0
 clear pR pZ
 go_enter Tryz.func74,Tryz.ntmps74
 go_wp2
 refine bodyPost_ret (by simp [results,Tryz.results74,go_sem,z0];try rfl) rfl ?_
 exact ⟨rfl,by go_grown⟩
theorem Qh (a:Option Addr) (n cap:Nat) (es:List E3) (w:World) (h:YV w a n cap es) :
  Calls Tryz.prog 102 #[.agg #[.slice a n cap]] w fun e w'=>e=.returned (.bool (upE es))∧Below w.heap.size w w':=by
 have bu:Below w.heap.size w (w.alloc (.cells #[.slice a n cap] 140)):=by go_grown
 have k:=Kz a n cap es _ (h.below bu)
 go_enter Tryz.func102,Tryz.ntmps102
 go_wp2_with fail
 refine k.mono ?_
 rintro e w1 ⟨rfl,hb⟩
 replace bu:=Zn bu hb
 go_wp2
 go_ret
 exact ⟨rfl,bu⟩

theorem R6 (a:Option Addr) (n cap:Nat) (es:List E3) (w:World) (h:YV w a n cap es) (hV:Z0 w) :
  Calls Tryz.prog 50 #[.agg #[.slice a n cap]] w fun e w'=>e=.returned (.bool (Y5 es))∧Below w.heap.size w w':=by
 rw [Nl]
 have hl:=h.1
 rw [hl]
 have bu:Below w.heap.size w (w.alloc (.cells #[.slice a n cap] 33)):=by go_grown
 have g0:(w.alloc (.cells #[.slice a n cap] 33)).cell? ⟨w.heap.size,0,none⟩=some (.slice a n cap):=by first | (simp [go_sem];done) | (simp [World.cell?];done)
 by_cases h2:n≤2000
 ·rw [decide_eq_true h2,Bool.true_and]
  have h3:¬ (2000:Int)<(n:Int):=by omega
  have kT:=fun W=>Pu a n cap W
  have kU:=fun W (hb:Below w.heap.size w W)=>Qh a n cap es W (h.below hb)
  obtain ⟨r,hr⟩:∃ r,r=(S0 es && upE es):=⟨_,rfl⟩
  rw [← hr]
  have HR:Hid (r=(S0 (es.drop 0) && upE es)):=by rw [Hid];simpa using hr
  clear hr
  generalize upE es=ue at *
  go_enter Tryz.func50,Tryz.ntmps50
  go_wp2_with fail
  generalize (w.alloc (.cells #[.slice a n cap] 33))=U at *
  go_loopw [12] (fun si wr=>∃ k:Nat,k≤n∧si=.int .i64 k∧Hid (r=(S0 (es.drop k) && ue))∧Below U.heap.size U wr) (fun si _=>n - (intOf si).toNat)
  case atStart=>exact ⟨0,by omega,rfl,HR,Below.refl _ _⟩
  case round =>
   clear HR
   obtain ⟨k,hk,rfl,HR,bw⟩:=hrel
   have bx:Below w.heap.size w wr:=Zn bu bw
   by_cases hlt:k<n
   ·obtain ⟨_,_,_,hcase⟩:=h.below bx
    rcases hcase with e0 | ⟨b,off,rfl,hb,hc⟩
    ·omega
    obtain ⟨s,x0,x1,x2,hm⟩:=hc k hlt
    clear hc hb
    have hst:=Ly (es:=es) (k:=k) (by omega)
    have kE:=fun W (hb:Below wr.heap.size wr W)=>Rg (es.getD k e3d) s W (hm.below hb) ((hV.below bx).below hb)
    generalize es.getD k e3d=x at *
    have HS:Hid (S0 (es.drop k)=(Ve x && S0 (es.drop (k+1)))):=hst
    clear hst hm
    obtain ⟨xk,xb,xz⟩:=x
    obtain ⟨⟨a1,n1,c1⟩,⟨a2,n2,c2⟩⟩:=s
    unfold ZM at kE
    simp only at x0 x1 x2 kE
    have hlt':(k:Int)<(n:Int):=by omega
    have hk0:(0:Int)≤(k:Int):=by omega
    cases hx:Ve (xk,xb,xz)
    ·have HF:Hid (r=false):=by rw [Hid,HR.out,HS.out,hx];rfl
     rw [hx] at kE
     clear hx HS HR
     go_wp2_with fail
     refine (kE _ (by go_grown)).mono ?_
     rintro e w1 ⟨rfl,hb1⟩
     have bw1:=Zn bx (Zn (by go_grown) hb1)
     clear hb1 x0 x1 x2 kE
     go_wp2
     go_ret
     exact ⟨by rw [HF.out];rfl,bw1⟩
    have HF:Hid (r=(S0 (es.drop (k+1)) && ue)):=by rw [Hid,HR.out,HS.out,hx];rfl
    rw [hx] at kE
    clear hx HS HR
    go_wp2_with fail
    refine (kE _ (by go_grown)).mono ?_
    rintro e w1 ⟨rfl,hb1⟩
    have bw1:=Zn bw (Zn (by go_grown) hb1)
    clear hb1 x0 x1 x2 kE
    go_wp2
    go_roundw
    case rel=>exact ⟨k+1,by omega,by go_num,HF,bw1⟩
    case measure=>simp [intOf];omega
   obtain rfl:k=n:=by omega
   have HF:Hid (r=ue):=by rw [Hid,HR.out,List.drop_of_length_le (by omega)];rfl
   have g1:=XK bw g0
   clear HR
   go_wp2_with fail
   refine (kT _).mono ?_
   rintro e w1 ⟨rfl,hb1⟩
   replace bx:=Zn bx hb1
   clear hb1 g1
   go_wp2_with fail
   refine (kU _ bx).mono ?_
   rintro e w2 ⟨rfl,hb1⟩
   replace bx:=Zn bx hb1
   clear hb1
   go_wp2
   go_ret
   exact ⟨by rw [HF.out];rfl,bx⟩
 rw [decide_eq_false h2,Bool.false_and]
 have h3:(2000:Int)<(n:Int):=by omega
 go_enter Tryz.func50,Tryz.ntmps50
 go_wp2
 go_ret
 exact ⟨rfl,bu⟩


theorem LF (L:List EQ) (x:EQ):ZZ (L++[x])=ZZ L++Yj x.1.1 x.2:=by
 rw [T6]
 simp [ZZ]
end Go.Proofs.YtnffeclgboomoaaGreatDoor
