/-
  Joined: EokI, MokI, KpsI.
-/
import Derived.Lib.Strings
import Derived.Lib.Walk
import Derived.Lib.BufferWrite
import Derived.Lib.UnsafeStr
import Derived.Laws.MakeOwn
import Derived.Test.YtgmhhegckcionaaGreatDoorF35

namespace Go.Proofs.YtgmhhegckcionaaGreatDoor
set_option maxRecDepth 100000
set_option maxHeartbeats 16000000
open Go.RowKit
set_option linter.unusedVariables false
set_option linter.unusedSimpArgs false

theorem Lu (xs:List I3):UN xs=(Rn xs && upB xs):=by
 rw [Bool.eq_iff_iff]
 simp only [UN,Rn,upB,Bool.and_eq_true,List.all_eq_true,List.mem_range,Mw,stB]
 constructor
 ·intro h
  refine ⟨fun x hx=>?_,fun i hi=>(h i hi).2⟩
  obtain ⟨t,ht,rfl⟩:=List.getElem_of_mem hx
  have:=(h t ht).1
  simpa [List.getD,List.getElem?_eq_getElem ht] using this
 rintro ⟨h1,h2⟩ i hi
 exact ⟨h1 _ (by simp [List.getD,List.getElem?_eq_getElem hi]),h2 i hi⟩
theorem Lv (xs:List Int):TW xs=(Vu xs && upI xs):=by
 rw [Bool.eq_iff_iff]
 simp only [TW,Vu,upI,Bool.and_eq_true,List.all_eq_true,List.mem_range,P0,stI]
 constructor
 ·intro h
  refine ⟨fun x hx=>?_,fun i hi=>(h i hi).2⟩
  obtain ⟨t,ht,rfl⟩:=List.getElem_of_mem hx
  have:=(h t ht).1
  simpa [List.getD,List.getElem?_eq_getElem ht] using this
 rintro ⟨h1,h2⟩ i hi
 exact ⟨h1 _ (by simp [List.getD,List.getElem?_eq_getElem hi]),h2 i hi⟩
def Qj (es:List E3):Bool:=es.all YY
theorem JK {es:List E3} {k:Nat} (h:k<es.length):Qj (es.drop k)=(YY (es.getD k e3d) && Qj (es.drop (k+1))):=by
 unfold Qj
 rw [List.drop_eq_getElem_cons h,List.all_cons]
 simp [List.getD,List.getElem?_eq_getElem h]
theorem Lc (es:List E3):Yl es=(decide (es.length≤2000) && (Qj es && upE es)):=by
 rw [Bool.eq_iff_iff]
 simp only [Yl,Qj,upE,Bool.and_eq_true,List.all_eq_true,List.mem_range,La,stE]
 constructor
 ·rintro ⟨h,h2⟩
  refine ⟨h2,fun x hx=>?_,fun i hi=>(h i hi).2⟩
  obtain ⟨t,ht,rfl⟩:=List.getElem_of_mem hx
  have:=(h t ht).1
  simpa [List.getD,List.getElem?_eq_getElem ht] using this
 rintro ⟨h0,h1,h2⟩
 exact ⟨fun i hi=>⟨h1 _ (by simp [List.getD,List.getElem?_eq_getElem hi]),h2 i hi⟩,h0⟩

theorem Fz (a:Option Addr) (n cap:Nat) (Z:List Int) (w:World) (h:Yn .i64 w a n cap Z) (hw:wfs Z) :
  Calls Tryz.prog 29 #[.slice a n cap] w fun e w'=>e=.returned (.bool (Vu Z))∧w=w':=by
 have hl:=h.1
 have hn:n≤maxLen:=Nat.le_trans h.2.1 h.2.2.1
 unfold maxLen at hn
 obtain ⟨r,hr⟩:∃ r,r=Vu Z:=⟨_,rfl⟩
 rw [← hr]
 have HR:Hid (r=Vu (Z.drop 0)):=by rw [Hid];simpa using hr
 clear hr
 go_enter Tryz.func29,Tryz.ntmps29
 go_wp2_with fail
 go_loopw [7] (fun si wr=>∃ k:Nat,k≤n∧si=.int .i64 k∧Hid (r=Vu (Z.drop k))∧w=wr) (fun si _=>n - (Go.RowKit.intOf si).toNat)
 case atStart=>exact ⟨0,by omega,rfl,HR,rfl⟩
 case round =>
  clear HR
  obtain ⟨k,hk,rfl,HR,rfl⟩:=hrel
  by_cases hlt:k<n
  ·have hm:=LY (xs:=Z) (k:=k) (by omega)
   have hx:=hw (Z.getD k 0) (by simp [List.getD,List.getElem?_eq_getElem (show k<Z.length by omega)])
   obtain ⟨_,_,_,hcase⟩:=h
   rcases hcase with e0 | ⟨b,off,rfl,hb,hc⟩
   ·omega
   have d0:=hc k hlt
   clear hc hb
   generalize Z.getD k 0=x at d0 hm hx
   have kO:=Hr x (CW hx)
   clear hx
   have HM:Hid (Vu (Z.drop k)=(Wj x && Vu (Z.drop (k+1)))):=hm
   clear hm
   have hlt':(k:Int)<(n:Int):=by omega
   have hk0:(0:Int)≤(k:Int):=by omega
   cases hE:Wj x
   ·rw [hE] at kO
    have HF:Hid (r=false):=by rw [Hid,HR.out,HM.out,hE];rfl
    clear HM HR hE
    go_wp2_with fail
    refine (kO _).mono ?_
    rintro e w1 ⟨rfl,rfl⟩
    go_wp2
    go_ret
    exact ⟨by rw [HF.out];rfl,rfl⟩
   rw [hE] at kO
   have HF:Hid (r=Vu (Z.drop (k+1))):=by rw [Hid,HR.out,HM.out,hE];rfl
   clear HM HR hE
   go_wp2_with fail
   refine (kO _).mono ?_
   rintro e w1 ⟨rfl,rfl⟩
   go_wp2
   go_roundw
   case rel=>exact ⟨k+1,by omega,by go_num,HF,by first | rfl | trivial⟩
   case measure=>simp [Go.RowKit.intOf];omega
  obtain rfl:k=n:=by omega
  have HF:Hid (r=true):=by rw [Hid,HR.out,List.drop_of_length_le (by omega)];rfl
  clear HR
  go_wp2
  go_ret
  exact ⟨by rw [HF.out];rfl,rfl⟩

theorem Qz (s:ByteArray) (w:World) (hs:s.size≤maxLen) (h:65536<s.size) :
  Calls Tryz.prog 72 #[.string s] w fun e w'=>e=.returned (.tuple #[.agg #[.slice none 0 0,.slice none 0 0,.slice none 0 0,.slice none 0 0],.int .i64 2])∧Below w.heap.size w w':=by
 unfold maxLen at hs
 have h2:(65536:Int)<(s.size:Int):=by omega
 go_enter Tryz.func72,Tryz.ntmps72
 go_wp2
 refine bodyPost_ret (ZF Tryz.results72 _ _ _ _ _ _ rfl (Blk.new w 88 [.slice none 0 0,.slice none 0 0,.slice none 0 0,.slice none 0 0]) Tryz.underlying88 rfl (by kernel_rfl)) rfl ?_
 exact ⟨rfl,by go_grown⟩
def Be (s:ByteArray) (c:Int):Prop:=(Wz s=true∧c=0)∨(Wz s=false∧(c=2∨c=3))
theorem N8 (s:ByteArray) (w:World) (hs:s.size≤maxLen) (hV:ZN w) :
  Calls Tryz.prog 72 #[.string s] w fun e w'=>(∃ z c,Be s c∧Xy e w' w.heap.size z c)∧Below w.heap.size w w':=by
 by_cases hl:65536<s.size
 ·refine (Qz s w hs hl).mono ?_
  rintro e w' ⟨rfl,hb⟩
  have e9:Wz s=false:=by unfold Wz;rw [decide_eq_false (by omega)];rfl
  exact ⟨⟨_,2,.inr ⟨e9,.inl rfl⟩,Xy.mk9 ((none,0,0),(none,0,0),(none,0,0),(none,0,0)) rfl (SO _ _)⟩,hb⟩
 refine (MR s w (by omega) hV).mono ?_
 rintro e w' ⟨hg,hb⟩
 refine ⟨⟨_,_,?_,hg⟩,hb⟩
 unfold Be Dx Wz
 rw [if_neg hl]
 by_cases h15:s.size=15
 ·rw [if_neg (fun h=>h h15),decide_eq_true h15,Bool.true_and]
  cases Zc (Yh s)
  ·exact .inr ⟨rfl,.inr rfl⟩
  exact .inl ⟨rfl,rfl⟩
 rw [if_pos h15,decide_eq_false h15,Bool.false_and]
 exact .inr ⟨rfl,.inr rfl⟩

theorem Qr (a:Option Addr) (n cap:Nat) (xs:List I3) (w:World) (h:Zr w a n cap xs) :
  Calls Tryz.prog 73 #[.slice a n cap] w fun e w'=>e=.returned (.bool (decide (xs.length≤30) && UN xs))∧Below w.heap.size w w':=by
 rw [Lu]
 have hl:=h.1
 have kR:=fun W (hb:Below w.heap.size w W)=>GA a n cap xs W (h.below hb)
 rw [hl]
 by_cases h30:n≤30
 ·have kB:=JN a n cap xs w h (by omega)
  rw [decide_eq_true h30,Bool.true_and]
  have h3:(n:Int)≤30:=by omega
  generalize upB xs=u at *
  cases hO:Rn xs
  ·rw [hO] at kB
   rw [Bool.false_and]
   clear hO
   go_enter Tryz.func73,Tryz.ntmps73
   go_wp2_with fail
   refine kB.mono ?_
   rintro e w1 ⟨rfl,hb⟩
   go_wp2
   go_ret
   exact ⟨rfl,hb⟩
  rw [hO] at kB
  rw [Bool.true_and]
  clear hO
  go_enter Tryz.func73,Tryz.ntmps73
  go_wp2_with fail
  refine kB.mono ?_
  rintro e w1 ⟨rfl,hb⟩
  go_wp2_with fail
  refine (kR _ hb).mono ?_
  rintro e w2 ⟨rfl,hb2⟩
  replace hb:=Zo hb hb2
  go_wp2
  go_ret
  exact ⟨rfl,hb⟩
 rw [decide_eq_false h30,Bool.false_and]
 have h3:¬ (n:Int)≤30:=by omega
 clear kR
 go_enter Tryz.func73,Tryz.ntmps73
 go_wp2
 go_ret
 exact ⟨rfl,Below.refl _ _⟩

theorem Tc (e:E3) (s:Sl2) (w:World) (h:YK w s e) (hV:ZN w) :
  Calls Tryz.prog 38 #[ZW e.1 s] w fun x w'=>x=.returned (.bool (YY e))∧Below w.heap.size w w':=by
 obtain ⟨⟨hk,_⟩,hB,hF,hfw⟩:=h
 obtain ⟨ek,eb,ez⟩:=e
 obtain ⟨⟨a1,n1,c1⟩,⟨a2,n2,c2⟩⟩:=s
 unfold ZW
 simp only at *
 have bw:Below w.heap.size w (w.alloc (.cells #[.string ek,.slice a1 n1 c1,.slice a2 n2 c2] 45)):=by go_grown
 have kK:=N8 ek _ hk (hV.below bw)
 have kR:=fun W (hb:Below w.heap.size w W)=>Qr a1 n1 c1 eb W (hB.below hb)
 have kI:=fun W (hb:Below w.heap.size w W)=>Fz a2 n2 c2 ez W (hF.below hb) hfw
 have kU:=fun W (hb:Below w.heap.size w W)=>GD a2 n2 c2 ez W (hF.below hb)
 have pA:Blk (w.alloc (.cells #[.string ek,.slice a1 n1 c1,.slice a2 n2 c2] 45)) w.heap.size 45 [.string ek,.slice a1 n1 c1,.slice a2 n2 c2]:=Zj _ _ _ rfl
 obtain ⟨fin,hfin⟩:∃ fin,fin=YY (ek,eb,ez):=⟨_,rfl⟩
 rw [← hfin]
 have HF:Hid (fin=(Wz ek && (decide (eb.length≤30) && UN eb) && (Vu ez && upI ez))):=by
  rw [Hid,hfin,YY]
  simp only
  rw [Lv]
  cases Wz ek<;>cases UN eb<;>cases Vu ez<;>cases upI ez<;>simp
 clear hfin hB hF hfw hV
 generalize (decide (eb.length≤30) && UN eb)=rb at *
 generalize Vu ez=ai at *
 generalize upI ez=ui at *
 go_enter Tryz.func38,Tryz.ntmps38
 go_wp2_with fail
 refine kK.mono ?_
 rintro x w1 ⟨⟨z,c,hc,⟨⟨t0a,t0n,t0c⟩,⟨t1a,t1n,t1c⟩,⟨t2a,t2n,t2c⟩,⟨t3a,t3n,t3c⟩⟩,rfl,_⟩,hb⟩
 have ut:S4.val ((t0a,t0n,t0c),(t1a,t1n,t1c),(t2a,t2n,t2c),(t3a,t3n,t3c))=.agg #[.slice t0a t0n t0c,.slice t1a t1n t1c,.slice t2a t2n t2c,.slice t3a t3n t3c]:=rfl
 rw [ut]
 clear ut kK
 have bA:Below w1.heap.size w1 (w1.alloc (.cells #[.slice t0a t0n t0c,.slice t1a t1n t1c,.slice t2a t2n t2c,.slice t3a t3n t3c] 88)):=by go_grown
 replace bw:=Zo bw (Zo hb bA)
 replace pA:=pA.below (Zo hb bA)
 clear hb bA
 have y1:=pA.cell 1
 simp only [List.getElem?_cons_zero,List.getElem?_cons_succ] at y1
 rcases hc with ⟨hK,rfl⟩ | ⟨hK,hc⟩
 ·rw [hK,Bool.true_and] at HF
  clear hK
  go_wp2_with fail
  generalize (w1.alloc (.cells #[.slice t0a t0n t0c,.slice t1a t1n t1c,.slice t2a t2n t2c,.slice t3a t3n t3c] 88))=U at *
  refine (kR _ bw).mono ?_
  rintro x w2 ⟨rfl,hb⟩
  replace bw:=Zo bw hb
  replace pA:=pA.below hb
  clear hb kR y1
  have y2:=pA.cell 2
  simp only [List.getElem?_cons_zero,List.getElem?_cons_succ] at y2
  cases rb
  ·have HR:Hid (fin=false):=HF.out
   clear HF kI kU
   go_wp2
   go_ret
   exact ⟨by rw [HR.out];rfl,bw⟩
  rw [Bool.true_and] at HF
  go_wp2_with fail
  refine (kI _ bw).mono ?_
  rintro x w3 ⟨rfl,rfl⟩
  cases ai
  ·have HR:Hid (fin=false):=HF.out
   clear HF kI kU
   go_wp2
   go_ret
   exact ⟨by rw [HR.out];rfl,bw⟩
  rw [Bool.true_and] at HF
  go_wp2_with fail
  refine (kU _ bw).mono ?_
  rintro x w4 ⟨rfl,hb⟩
  replace bw:=Zo bw hb
  clear hb kI kU y2 pA
  go_wp2
  go_ret
  exact ⟨by rw [HF.out];rfl,bw⟩
 have HR:Hid (fin=false):=by rw [Hid,HF.out,hK];rfl
 clear HF hK kR kI kU
 rcases hc with rfl | rfl
 ·go_wp2
  go_ret
  exact ⟨by rw [HR.out];rfl,bw⟩
 go_wp2
 go_ret
 exact ⟨by rw [HR.out];rfl,bw⟩


theorem Mf (a:Option Addr) (n cap:Nat) (w:World) :
  Calls Tryz.prog 52 #[.agg #[.slice a n cap]] w fun e w'=>e=.returned (.agg #[.slice a n cap])∧Below w.heap.size w w':=by
 have pR:Blk ((w.alloc (.cells #[.slice a n cap] 33)).alloc (.cells #[.slice none 0 0] 116)) (w.heap.size+1) 116 [.slice none 0 0]:=Zj _ _ _ (by simp)
 have r0:=pR.cell 0
 have fr0:=pR.frozen 0
 have pZ:=pR.set 0 (.slice a n cap)
 simp only [List.set_cons_zero] at pZ
 have z0:=pZ.cell 0
 simp only [List.getElem?_cons_zero] at z0 r0
 clear pR pZ
 go_enter Tryz.func52,Tryz.ntmps52
 go_wp2
 refine bodyPost_ret (by simp [results,Tryz.results52,go_sem,z0];try rfl) rfl ?_
 exact ⟨rfl,by go_grown⟩
theorem PB (a:Option Addr) (n cap:Nat) (es:List E3) (w:World) (h:Y6 w a n cap es) :
  Calls Tryz.prog 61 #[.agg #[.slice a n cap]] w fun e w'=>e=.returned (.bool (upE es))∧Below w.heap.size w w':=by
 have bu:Below w.heap.size w (w.alloc (.cells #[.slice a n cap] 116)):=by go_grown
 have k:=GC a n cap es _ (h.below bu)
 go_enter Tryz.func61,Tryz.ntmps61
 go_wp2_with fail
 refine k.mono ?_
 rintro e w1 ⟨rfl,hb⟩
 replace bu:=Zo bu hb
 go_wp2
 go_ret
 exact ⟨rfl,bu⟩

theorem VT (a:Option Addr) (n cap:Nat) (es:List E3) (w:World) (h:Y6 w a n cap es) (hV:ZN w) :
  Calls Tryz.prog 28 #[.agg #[.slice a n cap]] w fun e w'=>e=.returned (.bool (Yl es))∧Below w.heap.size w w':=by
 rw [Lc]
 have hl:=h.1
 rw [hl]
 have bu:Below w.heap.size w (w.alloc (.cells #[.slice a n cap] 33)):=by go_grown
 have g0:(w.alloc (.cells #[.slice a n cap] 33)).cell? ⟨w.heap.size,0,none⟩=some (.slice a n cap):=by first | (simp [go_sem];done) | (simp [World.cell?];done)
 by_cases h2:n≤2000
 ·rw [decide_eq_true h2,Bool.true_and]
  have h3:¬ (2000:Int)<(n:Int):=by omega
  have kT:=fun W=>Mf a n cap W
  have kU:=fun W (hb:Below w.heap.size w W)=>PB a n cap es W (h.below hb)
  obtain ⟨r,hr⟩:∃ r,r=(Qj es && upE es):=⟨_,rfl⟩
  rw [← hr]
  have HR:Hid (r=(Qj (es.drop 0) && upE es)):=by rw [Hid];simpa using hr
  clear hr
  generalize upE es=ue at *
  go_enter Tryz.func28,Tryz.ntmps28
  go_wp2_with fail
  generalize (w.alloc (.cells #[.slice a n cap] 33))=U at *
  go_loopw [12] (fun si wr=>∃ k:Nat,k≤n∧si=.int .i64 k∧Hid (r=(Qj (es.drop k) && ue))∧Below U.heap.size U wr) (fun si _=>n - (intOf si).toNat)
  case atStart=>exact ⟨0,by omega,rfl,HR,Below.refl _ _⟩
  case round =>
   clear HR
   obtain ⟨k,hk,rfl,HR,bw⟩:=hrel
   have bx:Below w.heap.size w wr:=Zo bu bw
   by_cases hlt:k<n
   ·obtain ⟨_,_,_,hcase⟩:=h.below bx
    rcases hcase with e0 | ⟨b,off,rfl,hb,hc⟩
    ·omega
    obtain ⟨s,x0,x1,x2,hm⟩:=hc k hlt
    clear hc hb
    have hst:=JK (es:=es) (k:=k) (by omega)
    have kE:=fun W (hb:Below wr.heap.size wr W)=>Tc (es.getD k e3d) s W (hm.below hb) ((hV.below bx).below hb)
    generalize es.getD k e3d=x at *
    have HS:Hid (Qj (es.drop k)=(YY x && Qj (es.drop (k+1)))):=hst
    clear hst hm
    obtain ⟨xk,xb,xz⟩:=x
    obtain ⟨⟨a1,n1,c1⟩,⟨a2,n2,c2⟩⟩:=s
    unfold ZW at kE
    simp only at x0 x1 x2 kE
    have hlt':(k:Int)<(n:Int):=by omega
    have hk0:(0:Int)≤(k:Int):=by omega
    cases hx:YY (xk,xb,xz)
    ·have HF:Hid (r=false):=by rw [Hid,HR.out,HS.out,hx];rfl
     rw [hx] at kE
     clear hx HS HR
     go_wp2_with fail
     refine (kE _ (by go_grown)).mono ?_
     rintro e w1 ⟨rfl,hb1⟩
     have bw1:=Zo bx (Zo (by go_grown) hb1)
     clear hb1 x0 x1 x2 kE
     go_wp2
     go_ret
     exact ⟨by rw [HF.out];rfl,bw1⟩
    have HF:Hid (r=(Qj (es.drop (k+1)) && ue)):=by rw [Hid,HR.out,HS.out,hx];rfl
    rw [hx] at kE
    clear hx HS HR
    go_wp2_with fail
    refine (kE _ (by go_grown)).mono ?_
    rintro e w1 ⟨rfl,hb1⟩
    have bw1:=Zo bw (Zo (by go_grown) hb1)
    clear hb1 x0 x1 x2 kE
    go_wp2
    go_roundw
    case rel=>exact ⟨k+1,by omega,by go_num,HF,bw1⟩
    case measure=>simp [intOf];omega
   obtain rfl:k=n:=by omega
   have HF:Hid (r=ue):=by rw [Hid,HR.out,List.drop_of_length_le (by omega)];rfl
   have g1:=ZM bw g0
   clear HR
   go_wp2_with fail
   refine (kT _).mono ?_
   rintro e w1 ⟨rfl,hb1⟩
   replace bx:=Zo bx hb1
   clear hb1 g1
   go_wp2_with fail
   refine (kU _ bx).mono ?_
   rintro e w2 ⟨rfl,hb1⟩
   replace bx:=Zo bx hb1
   clear hb1
   go_wp2
   go_ret
   exact ⟨by rw [HF.out];rfl,bx⟩
 rw [decide_eq_false h2,Bool.false_and]
 have h3:(2000:Int)<(n:Int):=by omega
 go_enter Tryz.func28,Tryz.ntmps28
 go_wp2
 go_ret
 exact ⟨rfl,bu⟩


theorem JU (L:List EQ) (x:EQ):Yq (L++[x])=Yq L++YI x.1.1 x.2:=by
 rw [RB]
 simp [Yq]
end Go.Proofs.YtgmhhegckcionaaGreatDoor
