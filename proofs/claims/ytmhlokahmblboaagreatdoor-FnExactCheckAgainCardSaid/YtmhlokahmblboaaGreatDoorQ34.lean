/-
  Joined: EokI, MokI, EsA.
-/
import Derived.Test.YtmhlokahmblboaaGreatDoorQ33

namespace Go.Proofs.YtmhlokahmblboaaGreatDoor
set_option maxRecDepth 100000
set_option maxHeartbeats 16000000
open Go.RowKit
set_option linter.unusedVariables false
set_option linter.unusedSimpArgs false

theorem N8 (xs:List I3):Ws xs=(TW xs && upB xs):=by
 rw [Bool.eq_iff_iff]
 simp only [Ws,TW,upB,Bool.and_eq_true,List.all_eq_true,List.mem_range,T7,stB]
 constructor
 ·intro h
  refine ⟨fun x hx=>?_,fun i hi=>(h i hi).2⟩
  obtain ⟨t,ht,rfl⟩:=List.getElem_of_mem hx
  have:=(h t ht).1
  simpa [List.getD,List.getElem?_eq_getElem ht] using this
 rintro ⟨h1,h2⟩ i hi
 exact ⟨h1 _ (by simp [List.getD,List.getElem?_eq_getElem hi]),h2 i hi⟩
theorem Ma (xs:List Int):Vr xs=(WJ xs && upI xs):=by
 rw [Bool.eq_iff_iff]
 simp only [Vr,WJ,upI,Bool.and_eq_true,List.all_eq_true,List.mem_range,UX,stI]
 constructor
 ·intro h
  refine ⟨fun x hx=>?_,fun i hi=>(h i hi).2⟩
  obtain ⟨t,ht,rfl⟩:=List.getElem_of_mem hx
  have:=(h t ht).1
  simpa [List.getD,List.getElem?_eq_getElem ht] using this
 rintro ⟨h1,h2⟩ i hi
 exact ⟨h1 _ (by simp [List.getD,List.getElem?_eq_getElem hi]),h2 i hi⟩
def Rc (es:List E3):Bool:=es.all Wi
theorem Kg {es:List E3} {k:Nat} (h:k<es.length):Rc (es.drop k)=(Wi (es.getD k e3d) && Rc (es.drop (k+1))):=by
 unfold Rc
 rw [List.drop_eq_getElem_cons h,List.all_cons]
 simp [List.getD,List.getElem?_eq_getElem h]
theorem NV (es:List E3):YQ es=(decide (es.length≤2000) && (Rc es && upE es)):=by
 rw [Bool.eq_iff_iff]
 simp only [YQ,Rc,upE,Bool.and_eq_true,List.all_eq_true,List.mem_range,VJ,stE]
 constructor
 ·rintro ⟨h,h2⟩
  refine ⟨h2,fun x hx=>?_,fun i hi=>(h i hi).2⟩
  obtain ⟨t,ht,rfl⟩:=List.getElem_of_mem hx
  have:=(h t ht).1
  simpa [List.getD,List.getElem?_eq_getElem ht] using this
 rintro ⟨h0,h1,h2⟩
 exact ⟨fun i hi=>⟨h1 _ (by simp [List.getD,List.getElem?_eq_getElem hi]),h2 i hi⟩,h0⟩

theorem JY (a:Option Addr) (n cap:Nat) (Z:List Int) (w:World) (h:ZW .i64 w a n cap Z) (hw:wfs Z) :
  Calls Tryz.prog 158 #[.slice a n cap] w fun e w'=>e=.returned (.bool (WJ Z))∧w=w':=by
 have hl:=h.1
 have hn:n≤maxLen:=Nat.le_trans h.2.1 h.2.2.1
 unfold maxLen at hn
 obtain ⟨r,hr⟩:∃ r,r=WJ Z:=⟨_,rfl⟩
 rw [← hr]
 have HR:Hid (r=WJ (Z.drop 0)):=by rw [Hid];simpa using hr
 clear hr
 go_enter Tryz.func158,Tryz.ntmps158
 go_wp2_with fail
 go_loopw [7] (fun si wr=>∃ k:Nat,k≤n∧si=.int .i64 k∧Hid (r=WJ (Z.drop k))∧w=wr) (fun si _=>n - (Go.RowKit.intOf si).toNat)
 case atStart=>exact ⟨0,by omega,rfl,HR,rfl⟩
 case round =>
  clear HR
  obtain ⟨k,hk,rfl,HR,rfl⟩:=hrel
  by_cases hlt:k<n
  ·have hm:=MC (xs:=Z) (k:=k) (by omega)
   have hx:=hw (Z.getD k 0) (by simp [List.getD,List.getElem?_eq_getElem (show k<Z.length by omega)])
   obtain ⟨_,_,_,hcase⟩:=h
   rcases hcase with e0 | ⟨b,off,rfl,hb,hc⟩
   ·omega
   have d0:=hc k hlt
   clear hc hb
   generalize Z.getD k 0=x at d0 hm hx
   have kO:=KE x (Rx hx)
   clear hx
   have HM:Hid (WJ (Z.drop k)=(Xq x && WJ (Z.drop (k+1)))):=hm
   clear hm
   have hlt':(k:Int)<(n:Int):=by omega
   have hk0:(0:Int)≤(k:Int):=by omega
   cases hE:Xq x
   ·rw [hE] at kO
    have HF:Hid (r=false):=by rw [Hid,HR.out,HM.out,hE];rfl
    clear HM HR hE
    go_wp2_with fail
    refine (kO _).mono ?_
    rintro e w1 ⟨rfl,rfl⟩
    go_wp2
    go_ret
    exact ⟨by rw [HF.out];rfl,rfl⟩
   rw [hE] at kO
   have HF:Hid (r=WJ (Z.drop (k+1))):=by rw [Hid,HR.out,HM.out,hE];rfl
   clear HM HR hE
   go_wp2_with fail
   refine (kO _).mono ?_
   rintro e w1 ⟨rfl,rfl⟩
   go_wp2
   go_roundw
   case rel=>exact ⟨k+1,by omega,by go_num,HF,by first | rfl | trivial⟩
   case measure=>simp [Go.RowKit.intOf];omega
  obtain rfl:k=n:=by omega
  have HF:Hid (r=true):=by rw [Hid,HR.out,List.drop_of_length_le (by omega)];rfl
  clear HR
  go_wp2
  go_ret
  exact ⟨by rw [HF.out];rfl,rfl⟩

theorem Rw (s:ByteArray) (w:World) (hs:s.size≤maxLen) (h:65536<s.size) :
  Calls Tryz.prog 156 #[.string s] w fun e w'=>e=.returned (.tuple #[.agg #[.slice none 0 0,.slice none 0 0,.slice none 0 0,.slice none 0 0],.int .i64 2])∧Below w.heap.size w w':=by
 unfold maxLen at hs
 have h2:(65536:Int)<(s.size:Int):=by omega
 go_enter Tryz.func156,Tryz.ntmps156
 go_wp2
 refine bodyPost_ret (Zu Tryz.results156 _ _ _ _ _ _ rfl (Blk.new w 74 [.slice none 0 0,.slice none 0 0,.slice none 0 0,.slice none 0 0]) Tryz.underlying74 rfl (by kernel_rfl)) rfl ?_
 exact ⟨rfl,by go_grown⟩
def Fx (s:ByteArray) (c:Int):Prop:=(Y1 s=true∧c=0)∨(Y1 s=false∧(c=2∨c=3))
theorem PN (s:ByteArray) (w:World) (hs:s.size≤maxLen) (hV:ZQ w) :
  Calls Tryz.prog 156 #[.string s] w fun e w'=>(∃ z c,Fx s c∧Yk e w' w.heap.size z c)∧Below w.heap.size w w':=by
 by_cases hl:65536<s.size
 ·refine (Rw s w hs hl).mono ?_
  rintro e w' ⟨rfl,hb⟩
  have e9:Y1 s=false:=by unfold Y1;rw [decide_eq_false (by omega)];rfl
  exact ⟨⟨_,2,.inr ⟨e9,.inl rfl⟩,Yk.mk9 ((none,0,0),(none,0,0),(none,0,0),(none,0,0)) rfl (Vo _ _)⟩,hb⟩
 refine (NB s w (by omega) hV).mono ?_
 rintro e w' ⟨hg,hb⟩
 refine ⟨⟨_,_,?_,hg⟩,hb⟩
 unfold Fx Gj Y1
 rw [if_neg hl]
 by_cases h15:s.size=15
 ·rw [if_neg (fun h=>h h15),decide_eq_true h15,Bool.true_and]
  cases Ze (Yh s)
  ·exact .inr ⟨rfl,.inr rfl⟩
  exact .inl ⟨rfl,rfl⟩
 rw [if_pos h15,decide_eq_false h15,Bool.false_and]
 exact .inr ⟨rfl,.inr rfl⟩

theorem Rn (a:Option Addr) (n cap:Nat) (xs:List I3) (w:World) (h:Zj w a n cap xs) :
  Calls Tryz.prog 157 #[.slice a n cap] w fun e w'=>e=.returned (.bool (decide (xs.length≤30) && Ws xs))∧Below w.heap.size w w':=by
 rw [N8]
 have hl:=h.1
 have kR:=fun W (hb:Below w.heap.size w W)=>Jh a n cap xs W (h.below hb)
 rw [hl]
 by_cases h30:n≤30
 ·have kB:=Ki a n cap xs w h (by omega)
  rw [decide_eq_true h30,Bool.true_and]
  have h3:(n:Int)≤30:=by omega
  generalize upB xs=u at *
  cases hO:TW xs
  ·rw [hO] at kB
   rw [Bool.false_and]
   clear hO
   go_enter Tryz.func157,Tryz.ntmps157
   go_wp2_with fail
   refine kB.mono ?_
   rintro e w1 ⟨rfl,hb⟩
   go_wp2
   go_ret
   exact ⟨rfl,hb⟩
  rw [hO] at kB
  rw [Bool.true_and]
  clear hO
  go_enter Tryz.func157,Tryz.ntmps157
  go_wp2_with fail
  refine kB.mono ?_
  rintro e w1 ⟨rfl,hb⟩
  go_wp2_with fail
  refine (kR _ hb).mono ?_
  rintro e w2 ⟨rfl,hb2⟩
  replace hb:=Zm hb hb2
  go_wp2
  go_ret
  exact ⟨rfl,hb⟩
 rw [decide_eq_false h30,Bool.false_and]
 have h3:¬ (n:Int)≤30:=by omega
 clear kR
 go_enter Tryz.func157,Tryz.ntmps157
 go_wp2
 go_ret
 exact ⟨rfl,Below.refl _ _⟩

theorem Rv (e:E3) (s:Sl2) (w:World) (h:YL w s e) (hV:ZQ w) :
  Calls Tryz.prog 104 #[ZU e.1 s] w fun x w'=>x=.returned (.bool (Wi e))∧Below w.heap.size w w':=by
 obtain ⟨⟨hk,_⟩,hB,hF,hfw⟩:=h
 obtain ⟨ek,eb,ez⟩:=e
 obtain ⟨⟨a1,n1,c1⟩,⟨a2,n2,c2⟩⟩:=s
 unfold ZU
 simp only at *
 have bw:Below w.heap.size w (w.alloc (.cells #[.string ek,.slice a1 n1 c1,.slice a2 n2 c2] 109)):=by go_grown
 have kK:=PN ek _ hk (hV.below bw)
 have kR:=fun W (hb:Below w.heap.size w W)=>Rn a1 n1 c1 eb W (hB.below hb)
 have kI:=fun W (hb:Below w.heap.size w W)=>JY a2 n2 c2 ez W (hF.below hb) hfw
 have kU:=fun W (hb:Below w.heap.size w W)=>Jj a2 n2 c2 ez W (hF.below hb)
 have pA:Blk (w.alloc (.cells #[.string ek,.slice a1 n1 c1,.slice a2 n2 c2] 109)) w.heap.size 109 [.string ek,.slice a1 n1 c1,.slice a2 n2 c2]:=Zh _ _ _ rfl
 obtain ⟨fin,hfin⟩:∃ fin,fin=Wi (ek,eb,ez):=⟨_,rfl⟩
 rw [← hfin]
 have HF:Hid (fin=(Y1 ek && (decide (eb.length≤30) && Ws eb) && (WJ ez && upI ez))):=by
  rw [Hid,hfin,Wi]
  simp only
  rw [Ma]
  cases Y1 ek<;>cases Ws eb<;>cases WJ ez<;>cases upI ez<;>simp
 clear hfin hB hF hfw hV
 generalize (decide (eb.length≤30) && Ws eb)=rb at *
 generalize WJ ez=ai at *
 generalize upI ez=ui at *
 go_enter Tryz.func104,Tryz.ntmps104
 go_wp2_with fail
 refine kK.mono ?_
 rintro x w1 ⟨⟨z,c,hc,⟨⟨t0a,t0n,t0c⟩,⟨t1a,t1n,t1c⟩,⟨t2a,t2n,t2c⟩,⟨t3a,t3n,t3c⟩⟩,rfl,_⟩,hb⟩
 have ut:S4.val ((t0a,t0n,t0c),(t1a,t1n,t1c),(t2a,t2n,t2c),(t3a,t3n,t3c))=.agg #[.slice t0a t0n t0c,.slice t1a t1n t1c,.slice t2a t2n t2c,.slice t3a t3n t3c]:=rfl
 rw [ut]
 clear ut kK
 have bA:Below w1.heap.size w1 (w1.alloc (.cells #[.slice t0a t0n t0c,.slice t1a t1n t1c,.slice t2a t2n t2c,.slice t3a t3n t3c] 74)):=by go_grown
 replace bw:=Zm bw (Zm hb bA)
 replace pA:=pA.below (Zm hb bA)
 clear hb bA
 have y1:=pA.cell 1
 simp only [List.getElem?_cons_zero,List.getElem?_cons_succ] at y1
 rcases hc with ⟨hK,rfl⟩ | ⟨hK,hc⟩
 ·rw [hK,Bool.true_and] at HF
  clear hK
  go_wp2_with fail
  generalize (w1.alloc (.cells #[.slice t0a t0n t0c,.slice t1a t1n t1c,.slice t2a t2n t2c,.slice t3a t3n t3c] 74))=U at *
  refine (kR _ bw).mono ?_
  rintro x w2 ⟨rfl,hb⟩
  replace bw:=Zm bw hb
  replace pA:=pA.below hb
  clear hb kR y1
  have y2:=pA.cell 2
  simp only [List.getElem?_cons_zero,List.getElem?_cons_succ] at y2
  cases rb
  ·have HR:Hid (fin=false):=HF.out
   clear HF kI kU
   go_wp2
   go_ret
   exact ⟨by rw [HR.out];rfl,bw⟩
  rw [Bool.true_and] at HF
  go_wp2_with fail
  refine (kI _ bw).mono ?_
  rintro x w3 ⟨rfl,rfl⟩
  cases ai
  ·have HR:Hid (fin=false):=HF.out
   clear HF kI kU
   go_wp2
   go_ret
   exact ⟨by rw [HR.out];rfl,bw⟩
  rw [Bool.true_and] at HF
  go_wp2_with fail
  refine (kU _ bw).mono ?_
  rintro x w4 ⟨rfl,hb⟩
  replace bw:=Zm bw hb
  clear hb kI kU y2 pA
  go_wp2
  go_ret
  exact ⟨by rw [HF.out];rfl,bw⟩
 have HR:Hid (fin=false):=by rw [Hid,HF.out,hK];rfl
 clear HF hK kR kI kU
 rcases hc with rfl | rfl
 ·go_wp2
  go_ret
  exact ⟨by rw [HR.out];rfl,bw⟩
 go_wp2
 go_ret
 exact ⟨by rw [HR.out];rfl,bw⟩


theorem PW (a:Option Addr) (n cap:Nat) (w:World) :
  Calls Tryz.prog 105 #[.agg #[.slice a n cap]] w fun e w'=>e=.returned (.agg #[.slice a n cap])∧Below w.heap.size w w':=by
 have pR:Blk ((w.alloc (.cells #[.slice a n cap] 47)).alloc (.cells #[.slice none 0 0] 180)) (w.heap.size+1) 180 [.slice none 0 0]:=Zh _ _ _ (by simp)
 have r0:=pR.cell 0
 have fr0:=pR.frozen 0
 have pZ:=pR.set 0 (.slice a n cap)
 simp only [List.set_cons_zero] at pZ
 have z0:=pZ.cell 0
 simp only [List.getElem?_cons_zero] at z0 r0
 clear pR pZ
 go_enter Tryz.func105,Tryz.ntmps105
 go_wp2
 refine bodyPost_ret (by simp [results,Tryz.results105,go_sem,z0];try rfl) rfl ?_
 exact ⟨rfl,by go_grown⟩
theorem QE (a:Option Addr) (n cap:Nat) (es:List E3) (w:World) (h:XF w a n cap es) :
  Calls Tryz.prog 106 #[.agg #[.slice a n cap]] w fun e w'=>e=.returned (.bool (upE es))∧Below w.heap.size w w':=by
 have bu:Below w.heap.size w (w.alloc (.cells #[.slice a n cap] 180)):=by go_grown
 have k:=Ji a n cap es _ (h.below bu)
 go_enter Tryz.func106,Tryz.ntmps106
 go_wp2_with fail
 refine k.mono ?_
 rintro e w1 ⟨rfl,hb⟩
 replace bu:=Zm bu hb
 go_wp2
 go_ret
 exact ⟨rfl,bu⟩

theorem Qr (a:Option Addr) (n cap:Nat) (es:List E3) (w:World) (h:XF w a n cap es) (hV:ZQ w) :
  Calls Tryz.prog 50 #[.agg #[.slice a n cap]] w fun e w'=>e=.returned (.bool (YQ es))∧Below w.heap.size w w':=by
 rw [NV]
 have hl:=h.1
 rw [hl]
 have bu:Below w.heap.size w (w.alloc (.cells #[.slice a n cap] 47)):=by go_grown
 have g0:(w.alloc (.cells #[.slice a n cap] 47)).cell? ⟨w.heap.size,0,none⟩=some (.slice a n cap):=by first | (simp [go_sem];done) | (simp [World.cell?];done)
 by_cases h2:n≤2000
 ·rw [decide_eq_true h2,Bool.true_and]
  have h3:¬ (2000:Int)<(n:Int):=by omega
  have kT:=fun W=>PW a n cap W
  have kU:=fun W (hb:Below w.heap.size w W)=>QE a n cap es W (h.below hb)
  obtain ⟨r,hr⟩:∃ r,r=(Rc es && upE es):=⟨_,rfl⟩
  rw [← hr]
  have HR:Hid (r=(Rc (es.drop 0) && upE es)):=by rw [Hid];simpa using hr
  clear hr
  generalize upE es=ue at *
  go_enter Tryz.func50,Tryz.ntmps50
  go_wp2_with fail
  generalize (w.alloc (.cells #[.slice a n cap] 47))=U at *
  go_loopw [12] (fun si wr=>∃ k:Nat,k≤n∧si=.int .i64 k∧Hid (r=(Rc (es.drop k) && ue))∧Below U.heap.size U wr) (fun si _=>n - (intOf si).toNat)
  case atStart=>exact ⟨0,by omega,rfl,HR,Below.refl _ _⟩
  case round =>
   clear HR
   obtain ⟨k,hk,rfl,HR,bw⟩:=hrel
   have bx:Below w.heap.size w wr:=Zm bu bw
   by_cases hlt:k<n
   ·obtain ⟨_,_,_,hcase⟩:=h.below bx
    rcases hcase with e0 | ⟨b,off,rfl,hb,hc⟩
    ·omega
    obtain ⟨s,x0,x1,x2,hm⟩:=hc k hlt
    clear hc hb
    have hst:=Kg (es:=es) (k:=k) (by omega)
    have kE:=fun W (hb:Below wr.heap.size wr W)=>Rv (es.getD k e3d) s W (hm.below hb) ((hV.below bx).below hb)
    generalize es.getD k e3d=x at *
    have HS:Hid (Rc (es.drop k)=(Wi x && Rc (es.drop (k+1)))):=hst
    clear hst hm
    obtain ⟨xk,xb,xz⟩:=x
    obtain ⟨⟨a1,n1,c1⟩,⟨a2,n2,c2⟩⟩:=s
    unfold ZU at kE
    simp only at x0 x1 x2 kE
    have hlt':(k:Int)<(n:Int):=by omega
    have hk0:(0:Int)≤(k:Int):=by omega
    cases hx:Wi (xk,xb,xz)
    ·have HF:Hid (r=false):=by rw [Hid,HR.out,HS.out,hx];rfl
     rw [hx] at kE
     clear hx HS HR
     go_wp2_with fail
     refine (kE _ (by go_grown)).mono ?_
     rintro e w1 ⟨rfl,hb1⟩
     have bw1:=Zm bx (Zm (by go_grown) hb1)
     clear hb1 x0 x1 x2 kE
     go_wp2
     go_ret
     exact ⟨by rw [HF.out];rfl,bw1⟩
    have HF:Hid (r=(Rc (es.drop (k+1)) && ue)):=by rw [Hid,HR.out,HS.out,hx];rfl
    rw [hx] at kE
    clear hx HS HR
    go_wp2_with fail
    refine (kE _ (by go_grown)).mono ?_
    rintro e w1 ⟨rfl,hb1⟩
    have bw1:=Zm bw (Zm (by go_grown) hb1)
    clear hb1 x0 x1 x2 kE
    go_wp2
    go_roundw
    case rel=>exact ⟨k+1,by omega,by go_num,HF,bw1⟩
    case measure=>simp [intOf];omega
   obtain rfl:k=n:=by omega
   have HF:Hid (r=ue):=by rw [Hid,HR.out,List.drop_of_length_le (by omega)];rfl
   have g1:=Zy bw g0
   clear HR
   go_wp2_with fail
   refine (kT _).mono ?_
   rintro e w1 ⟨rfl,hb1⟩
   replace bx:=Zm bx hb1
   clear hb1 g1
   go_wp2_with fail
   refine (kU _ bx).mono ?_
   rintro e w2 ⟨rfl,hb1⟩
   replace bx:=Zm bx hb1
   clear hb1
   go_wp2
   go_ret
   exact ⟨by rw [HF.out];rfl,bx⟩
 rw [decide_eq_false h2,Bool.false_and]
 have h3:(2000:Int)<(n:Int):=by omega
 go_enter Tryz.func50,Tryz.ntmps50
 go_wp2
 go_ret
 exact ⟨rfl,bu⟩


theorem PQ (a:Option Addr) (n cap:Nat) (xs:List I3) (w:World) (h:Zj w a n cap xs) :
  Calls Tryz.prog 145 #[.slice a n cap] w fun e w'=>e=.returned (.bool (Ws xs))∧Below w.heap.size w w':=by
 obtain ⟨hl,hlc,hcm,_,hcase⟩:=h
 unfold maxLen at hcm
 obtain ⟨fin,hfin⟩:∃ fin,fin=Ws xs:=⟨_,rfl⟩
 rw [← hfin]
 have HF:Hid (fin=Ws xs):=hfin
 clear hfin
 go_enter Tryz.func145,Tryz.ntmps145
 go_wp2_with fail
 go_loopw [3] (fun si wr=>∃ k:Nat,k≤n∧si=.int .i64 k∧Hid (∀ i,i<k→T7 xs i=true)∧Below w.heap.size w wr) (fun si _=>n - (intOf si).toNat)
 case atStart=>exact ⟨0,by omega,rfl,fun i hi=>by omega,Below.refl _ _⟩
 case round =>
  obtain ⟨k,hk,rfl,HK,bw⟩:=hrel
  by_cases hlt:k<n
  ·rcases hcase with e0 | ⟨b,off,rfl,hblt,hcell⟩
   ·omega
   obtain ⟨c0,c1,c2⟩:=hcell k hlt
   have HS:Hid (T7 xs k=(okB (xs.getD k (0,0,0)) && (decide (k=0) || ltB (xs.getD (k - 1) (0,0,0)) (xs.getD k (0,0,0))))):=rfl
   have hlt2:(k:Int)<(n:Int):=by omega
   have hk0:(0:Int)≤(k:Int):=by omega
   cases hO:okB (xs.getD k (0,0,0))
   ·have HR:Hid (fin=false):=by rw [Hid,HF.out];exact YW (show k<xs.length by omega) (by rw [HS.out,hO];rfl)
    clear HS HF HK hcell
    generalize xs.getD k (0,0,0)=x at *
    replace c0:=Zy bw c0
    replace c1:=Zy bw c1
    replace c2:=Zy bw c2
    have kO:=fun W=>Wz x W
    unfold I3.val at kO
    rw [hO] at kO
    clear hO
    go_wp2_with fail
    refine wp_region_held_drew (S:=(fun w'=>w'.cell? ⟨b,off+k*3,none⟩=some (.int .i64 x.1)∧w'.cell? ⟨b,off+k*3+1,none⟩=some (.int .i64 x.2.1)∧w'.cell? ⟨b,off+k*3+2,none⟩=some (.int .i64 x.2.2))) (by kernel_rfl) ⟨c0,c1,c2⟩ (fun hS0=>?_)
    refine tkv 0 10 (.slice (some ⟨b,off,none⟩) n cap) ?_
    refine tkv 1 11 (.int .i64 k) ?_
    refine tkv 2 12 (.pointer (some ⟨b,off+k*3,none⟩)) ?_
    refine tkv 3 13 (.agg #[.int .i64 x.1,.int .i64 x.2.1,.int .i64 x.2.2]) ?_
    refine tkr 4 14 (fun K hK=>?_)
    go_simp
    refine (kO _).mono ?_
    rintro e w1 ⟨rfl,hb⟩
    go_wp2_with fail
    refine hK.out _ _ ?_ (fun hS1=>?_)
    ·exact ⟨Za hb _ _ hS0.1,Za hb _ _ hS0.2.1,Za hb _ _ hS0.2.2⟩
    clear hK
    refine tkv 5 15 (.bool true) ?_
    refine tkv 6 16 (.bool true) ?_
    refine tku 7 17 ?_
    refine tku 8 18 ?_
    refine tku 9 19 ?_
    refine tku 10 20 ?_
    refine tku 11 21 ?_
    refine tku 12 22 ?_
    refine tku 13 23 ?_
    refine tku 14 24 ?_
    refine tku 15 25 ?_
    refine tku 16 26 ?_
    refine tku 17 27 ?_
    refine tku 18 28 ?_
    refine tku 19 29 ?_
    refine tku 20 30 ?_
    refine tku 21 31 ?_
    refine tkv 22 32 (.bool true) ?_
    refine wpAnyH_done (by kernel_rfl) ?_ _
    have bz:Below w.heap.size w w1:=Zm (Zm bw (by go_grown)) hb
    clear hS0 hS1 hb c0 c1 c2
    go_wp2
    go_ret
    exact ⟨by rw [HR.out];rfl,bz⟩
   by_cases hz:k=0
   ·have HK2:Hid (∀ i,i<k+1→T7 xs i=true):=fun i hi=>by
     obtain rfl:i=k:=by omega
     rw [HS.out,hO,decide_eq_true hz];rfl
    have hgt:¬ (0:Int)<(k:Int):=by omega
    clear HS HK hcell
    generalize xs.getD k (0,0,0)=x at *
    replace c0:=Zy bw c0
    replace c1:=Zy bw c1
    replace c2:=Zy bw c2
    have kO:=fun W=>Wz x W
    unfold I3.val at kO
    rw [hO] at kO
    clear hO hz
    go_wp2_with fail
    refine wp_region_held_drew (S:=(fun w'=>w'.cell? ⟨b,off+k*3,none⟩=some (.int .i64 x.1)∧w'.cell? ⟨b,off+k*3+1,none⟩=some (.int .i64 x.2.1)∧w'.cell? ⟨b,off+k*3+2,none⟩=some (.int .i64 x.2.2))) (by kernel_rfl) ⟨c0,c1,c2⟩ (fun hS0=>?_)
    refine tkv 0 10 (.slice (some ⟨b,off,none⟩) n cap) ?_
    refine tkv 1 11 (.int .i64 k) ?_
    refine tkv 2 12 (.pointer (some ⟨b,off+k*3,none⟩)) ?_
    refine tkv 3 13 (.agg #[.int .i64 x.1,.int .i64 x.2.1,.int .i64 x.2.2]) ?_
    refine tkr 4 14 (fun K hK=>?_)
    go_simp
    refine (kO _).mono ?_
    rintro e w1 ⟨rfl,hb⟩
    go_wp2_with fail
    refine hK.out _ _ ?_ (fun hS1=>?_)
    ·exact ⟨Za hb _ _ hS0.1,Za hb _ _ hS0.2.1,Za hb _ _ hS0.2.2⟩
    clear hK
    refine tkv 5 15 (.bool false) ?_
    refine tkv 6 16 (.bool false) ?_
    refine tkv 7 17 (.int .i64 k) ?_
    refine tkv 8 18 (.bool false) ?_
    refine tkv 9 19 (.bool false) ?_
    refine tku 10 20 ?_
    refine tku 11 21 ?_
    refine tku 12 22 ?_
    refine tku 13 23 ?_
    refine tku 14 24 ?_
    refine tku 15 25 ?_
    refine tku 16 26 ?_
    refine tku 17 27 ?_
    refine tku 18 28 ?_
    refine tku 19 29 ?_
    refine tku 20 30 ?_
    refine tkv 21 31 (.bool false) ?_
    refine tkv 22 32 (.bool false) ?_
    refine wpAnyH_done (by kernel_rfl) ?_ _
    have bz:Below w.heap.size w w1:=Zm (Zm bw (by go_grown)) hb
    clear hS0 hS1 hb c0 c1 c2
    go_wp2
    go_roundw
    case rel=>exact ⟨k+1,by omega,by go_num,HK2,bz⟩
    case measure=>simp [intOf];omega
   obtain ⟨m,rfl⟩:∃ m,k=m+1:=⟨k - 1,by omega⟩
   obtain ⟨d0,d1,d2⟩:=hcell m (by omega)
   have hgt:(0:Int)<((m+1:Nat):Int):=by omega
   have hsub:IntKind.i64.wrap (((m+1:Nat):Int) - 1)=(m:Int):=by rw [IntKind.wrap_i64];omega
   have hm0:(0:Int)≤(m:Int):=by omega
   have hmn:(m:Int)<(n:Int):=by omega
   rw [show m+1 - 1=m from rfl,decide_eq_false (show ¬ m+1=0 by omega),Bool.false_or] at HS
   cases hT:ltB (xs.getD (m) (0,0,0)) (xs.getD (m+1) (0,0,0))
   ·have HR:Hid (fin=false):=by rw [Hid,HF.out];exact YW (show m+1<xs.length by omega) (by rw [HS.out,hO,hT];rfl)
    clear HS HF HK hcell
    generalize xs.getD (m+1) (0,0,0)=x at *
    generalize xs.getD m (0,0,0)=y at *
    replace c0:=Zy bw c0
    replace c1:=Zy bw c1
    replace c2:=Zy bw c2
    replace d0:=Zy bw d0
    replace d1:=Zy bw d1
    replace d2:=Zy bw d2
    have kO:=fun W=>Wz x W
    unfold I3.val at kO
    rw [hO] at kO
    have kL:=fun W=>UB y x W
    unfold I3.val at kL
    rw [hT] at kL
    clear hO hT
    go_wp2_with fail
    refine wp_region_held_drew (S:=(fun w'=>w'.cell? ⟨b,off+(m+1)*3,none⟩=some (.int .i64 x.1)∧w'.cell? ⟨b,off+(m+1)*3+1,none⟩=some (.int .i64 x.2.1)∧w'.cell? ⟨b,off+(m+1)*3+2,none⟩=some (.int .i64 x.2.2)∧w'.cell? ⟨b,off+m*3,none⟩=some (.int .i64 y.1)∧w'.cell? ⟨b,off+m*3+1,none⟩=some (.int .i64 y.2.1)∧w'.cell? ⟨b,off+m*3+2,none⟩=some (.int .i64 y.2.2))) (by kernel_rfl) ⟨c0,c1,c2,d0,d1,d2⟩ (fun hS0=>?_)
    refine tkv 0 10 (.slice (some ⟨b,off,none⟩) n cap) ?_
    refine tkv 1 11 (.int .i64 ((m+1:Nat):Int)) ?_
    refine tkv 2 12 (.pointer (some ⟨b,off+(m+1)*3,none⟩)) ?_
    refine tkv 3 13 (.agg #[.int .i64 x.1,.int .i64 x.2.1,.int .i64 x.2.2]) ?_
    refine tkr 4 14 (fun K hK=>?_)
    go_simp
    refine (kO _).mono ?_
    rintro e w1 ⟨rfl,hb⟩
    go_wp2_with fail
    refine hK.out _ _ ?_ (fun hS1=>?_)
    ·exact ⟨Za hb _ _ hS0.1,Za hb _ _ hS0.2.1,Za hb _ _ hS0.2.2.1,Za hb _ _ hS0.2.2.2.1,Za hb _ _ hS0.2.2.2.2.1,Za hb _ _ hS0.2.2.2.2.2⟩
    clear hK
    refine tkv 5 15 (.bool false) ?_
    refine tkv 6 16 (.bool false) ?_
    refine tkv 7 17 (.int .i64 ((m+1:Nat):Int)) ?_
    refine tkv 8 18 (.bool true) ?_
    refine tkv 9 19 (.bool true) ?_
    refine tkv 10 20 (.slice (some ⟨b,off,none⟩) n cap) ?_
    refine tkv 11 21 (.int .i64 ((m+1:Nat):Int)) ?_
    refine tkv 12 22 (.int .i64 (m:Int)) ?_
    refine tkv 13 23 (.pointer (some ⟨b,off+m*3,none⟩)) ?_
    refine tkv 14 24 (.agg #[.int .i64 y.1,.int .i64 y.2.1,.int .i64 y.2.2]) ?_
    refine tkv 15 25 (.slice (some ⟨b,off,none⟩) n cap) ?_
    refine tkv 16 26 (.int .i64 ((m+1:Nat):Int)) ?_
    refine tkv 17 27 (.pointer (some ⟨b,off+(m+1)*3,none⟩)) ?_
    refine tkv 18 28 (.agg #[.int .i64 x.1,.int .i64 x.2.1,.int .i64 x.2.2]) ?_
    refine tkr 19 29 (fun K hK=>?_)
    go_simp
    refine (kL _).mono ?_
    rintro e w2 ⟨rfl,hb2⟩
    go_wp2_with fail
    refine hK.out _ _ ?_ (fun hS2=>?_)
    ·exact ⟨Za hb2 _ _ hS1.1,Za hb2 _ _ hS1.2.1,Za hb2 _ _ hS1.2.2.1,Za hb2 _ _ hS1.2.2.2.1,Za hb2 _ _ hS1.2.2.2.2.1,Za hb2 _ _ hS1.2.2.2.2.2⟩
    clear hK
    refine tkv 20 30 (.bool true) ?_
    refine tkv 21 31 (.bool true) ?_
    refine tkv 22 32 (.bool true) ?_
    refine wpAnyH_done (by kernel_rfl) ?_ _
    have bz:Below w.heap.size w w2:=Zm (Zm (Zm bw (by go_grown)) hb) hb2
    clear hS0 hS1 hb c0 c1 c2 d0 d1 d2 hb2 hS2
    go_wp2
    go_ret
    exact ⟨by rw [HR.out];rfl,bz⟩
   have HK2:Hid (∀ i,i<m+1+1→T7 xs i=true):=fun i hi=>by
    by_cases e:i=m+1
    ·rw [e,HS.out,hO,hT];rfl
    exact HK.out i (by omega)
   clear HS HK hcell
   generalize xs.getD (m+1) (0,0,0)=x at *
   generalize xs.getD m (0,0,0)=y at *
   replace c0:=Zy bw c0
   replace c1:=Zy bw c1
   replace c2:=Zy bw c2
   replace d0:=Zy bw d0
   replace d1:=Zy bw d1
   replace d2:=Zy bw d2
   have kO:=fun W=>Wz x W
   unfold I3.val at kO
   rw [hO] at kO
   have kL:=fun W=>UB y x W
   unfold I3.val at kL
   rw [hT] at kL
   clear hO hT
   go_wp2_with fail
   refine wp_region_held_drew (S:=(fun w'=>w'.cell? ⟨b,off+(m+1)*3,none⟩=some (.int .i64 x.1)∧w'.cell? ⟨b,off+(m+1)*3+1,none⟩=some (.int .i64 x.2.1)∧w'.cell? ⟨b,off+(m+1)*3+2,none⟩=some (.int .i64 x.2.2)∧w'.cell? ⟨b,off+m*3,none⟩=some (.int .i64 y.1)∧w'.cell? ⟨b,off+m*3+1,none⟩=some (.int .i64 y.2.1)∧w'.cell? ⟨b,off+m*3+2,none⟩=some (.int .i64 y.2.2))) (by kernel_rfl) ⟨c0,c1,c2,d0,d1,d2⟩ (fun hS0=>?_)
   refine tkv 0 10 (.slice (some ⟨b,off,none⟩) n cap) ?_
   refine tkv 1 11 (.int .i64 ((m+1:Nat):Int)) ?_
   refine tkv 2 12 (.pointer (some ⟨b,off+(m+1)*3,none⟩)) ?_
   refine tkv 3 13 (.agg #[.int .i64 x.1,.int .i64 x.2.1,.int .i64 x.2.2]) ?_
   refine tkr 4 14 (fun K hK=>?_)
   go_simp
   refine (kO _).mono ?_
   rintro e w1 ⟨rfl,hb⟩
   go_wp2_with fail
   refine hK.out _ _ ?_ (fun hS1=>?_)
   ·exact ⟨Za hb _ _ hS0.1,Za hb _ _ hS0.2.1,Za hb _ _ hS0.2.2.1,Za hb _ _ hS0.2.2.2.1,Za hb _ _ hS0.2.2.2.2.1,Za hb _ _ hS0.2.2.2.2.2⟩
   clear hK
   refine tkv 5 15 (.bool false) ?_
   refine tkv 6 16 (.bool false) ?_
   refine tkv 7 17 (.int .i64 ((m+1:Nat):Int)) ?_
   refine tkv 8 18 (.bool true) ?_
   refine tkv 9 19 (.bool true) ?_
   refine tkv 10 20 (.slice (some ⟨b,off,none⟩) n cap) ?_
   refine tkv 11 21 (.int .i64 ((m+1:Nat):Int)) ?_
   refine tkv 12 22 (.int .i64 (m:Int)) ?_
   refine tkv 13 23 (.pointer (some ⟨b,off+m*3,none⟩)) ?_
   refine tkv 14 24 (.agg #[.int .i64 y.1,.int .i64 y.2.1,.int .i64 y.2.2]) ?_
   refine tkv 15 25 (.slice (some ⟨b,off,none⟩) n cap) ?_
   refine tkv 16 26 (.int .i64 ((m+1:Nat):Int)) ?_
   refine tkv 17 27 (.pointer (some ⟨b,off+(m+1)*3,none⟩)) ?_
   refine tkv 18 28 (.agg #[.int .i64 x.1,.int .i64 x.2.1,.int .i64 x.2.2]) ?_
   refine tkr 19 29 (fun K hK=>?_)
   go_simp
   refine (kL _).mono ?_
   rintro e w2 ⟨rfl,hb2⟩
   go_wp2_with fail
   refine hK.out _ _ ?_ (fun hS2=>?_)
   ·exact ⟨Za hb2 _ _ hS1.1,Za hb2 _ _ hS1.2.1,Za hb2 _ _ hS1.2.2.1,Za hb2 _ _ hS1.2.2.2.1,Za hb2 _ _ hS1.2.2.2.2.1,Za hb2 _ _ hS1.2.2.2.2.2⟩
   clear hK
   refine tkv 20 30 (.bool false) ?_
   refine tkv 21 31 (.bool false) ?_
   refine tkv 22 32 (.bool false) ?_
   refine wpAnyH_done (by kernel_rfl) ?_ _
   have bz:Below w.heap.size w w2:=Zm (Zm (Zm bw (by go_grown)) hb) hb2
   clear hS0 hS1 hb c0 c1 c2 d0 d1 d2 hb2 hS2
   go_wp2
   go_roundw
   case rel=>exact ⟨m+1+1,by omega,by go_num,HK2,bz⟩
   case measure=>simp [intOf];omega
  obtain rfl:k=n:=by omega
  have HR:Hid (fin=true):=by rw [Hid,HF.out];exact XQ (fun i hi=>HK.out i (by omega))
  clear HF HK hcase
  go_wp2
  go_ret
  exact ⟨by rw [HR.out];rfl,bw⟩

theorem NM (a:Option Addr) (n cap:Nat) (xs:List Int) (w:World) (h:ZW .i64 w a n cap xs) (hw:wfs xs) :
  Calls Tryz.prog 146 #[.slice a n cap] w fun e w'=>e=.returned (.bool (Vr xs))∧Below w.heap.size w w':=by
 obtain ⟨hl,hlc,hcm,hcase⟩:=h
 unfold maxLen at hcm
 obtain ⟨fin,hfin⟩:∃ fin,fin=Vr xs:=⟨_,rfl⟩
 rw [← hfin]
 have HF:Hid (fin=Vr xs):=hfin
 clear hfin
 go_enter Tryz.func146,Tryz.ntmps146
 go_wp2_with fail
 go_loopw [3] (fun si wr=>∃ k:Nat,k≤n∧si=.int .i64 k∧Hid (∀ i,i<k→UX xs i=true)∧Below w.heap.size w wr) (fun si _=>n - (intOf si).toNat)
 case atStart=>exact ⟨0,by omega,rfl,fun i hi=>by omega,Below.refl _ _⟩
 case round =>
  obtain ⟨k,hk,rfl,HK,bw⟩:=hrel
  by_cases hlt:k<n
  ·rcases hcase with e0 | ⟨b,off,rfl,hblt,hcell⟩
   ·omega
   have c0:=hcell k hlt
   have hxw:=hw (xs.getD k 0) (by simp [List.getD,List.getElem?_eq_getElem (show k<xs.length by omega)])
   have HS:Hid (UX xs k=(Xq (xs.getD k 0) && (decide (k=0) || decide (xs.getD (k - 1) 0<xs.getD k 0)))):=rfl
   have hlt2:(k:Int)<(n:Int):=by omega
   have hk0:(0:Int)≤(k:Int):=by omega
   cases hO:Xq (xs.getD k 0)
   ·have HR:Hid (fin=false):=by rw [Hid,HF.out];exact YW (show k<xs.length by omega) (by rw [HS.out,hO];rfl)
    clear HS HF HK hcell
    generalize xs.getD k 0=x at *
    replace c0:=Zy bw c0
    have kO:=fun W=>Tb x (Rx hxw) W
    rw [hO] at kO
    clear hO
    go_wp2_with fail
    refine wp_region_held_drew (S:=(fun w'=>w'.cell? ⟨b,off+k,none⟩=some (.int .i64 x))) (by kernel_rfl) c0 (fun hS0=>?_)
    refine tkv 0 10 (.slice (some ⟨b,off,none⟩) n cap) ?_
    refine tkv 1 11 (.int .i64 k) ?_
    refine tkv 2 12 (.pointer (some ⟨b,off+k,none⟩)) ?_
    refine tkv 3 13 (.int .i64 x) ?_
    refine tkr 4 14 (fun K hK=>?_)
    go_simp
    refine (kO _).mono ?_
    rintro e w1 ⟨rfl,rfl⟩
    go_wp2_with fail
    refine hK.out _ _ ?_ (fun hS1=>?_)
    ·exact hS0
    clear hK
    refine tkv 5 15 (.bool true) ?_
    refine tkv 6 16 (.bool true) ?_
    refine tku 7 17 ?_
    refine tku 8 18 ?_
    refine tku 9 19 ?_
    refine tku 10 20 ?_
    refine tku 11 21 ?_
    refine tku 12 22 ?_
    refine tku 13 23 ?_
    refine tku 14 24 ?_
    refine tku 15 25 ?_
    refine tku 16 26 ?_
    refine tku 17 27 ?_
    refine tku 18 28 ?_
    refine tku 19 29 ?_
    refine tku 20 30 ?_
    refine tkv 21 31 (.bool true) ?_
    refine wpAnyH_done (by kernel_rfl) ?_ _
    have bz:Below w.heap.size w wr.drew:=Zm bw (by go_grown)
    clear hS0 hS1 c0
    go_wp2
    go_ret
    exact ⟨by rw [HR.out];rfl,bz⟩
   by_cases hz:k=0
   ·have HK2:Hid (∀ i,i<k+1→UX xs i=true):=fun i hi=>by
     obtain rfl:i=k:=by omega
     rw [HS.out,hO,decide_eq_true hz];rfl
    have hgt:¬ (0:Int)<(k:Int):=by omega
    clear HS HK hcell
    generalize xs.getD k 0=x at *
    replace c0:=Zy bw c0
    have kO:=fun W=>Tb x (Rx hxw) W
    rw [hO] at kO
    clear hO hz
    go_wp2_with fail
    refine wp_region_held_drew (S:=(fun w'=>w'.cell? ⟨b,off+k,none⟩=some (.int .i64 x))) (by kernel_rfl) c0 (fun hS0=>?_)
    refine tkv 0 10 (.slice (some ⟨b,off,none⟩) n cap) ?_
    refine tkv 1 11 (.int .i64 k) ?_
    refine tkv 2 12 (.pointer (some ⟨b,off+k,none⟩)) ?_
    refine tkv 3 13 (.int .i64 x) ?_
    refine tkr 4 14 (fun K hK=>?_)
    go_simp
    refine (kO _).mono ?_
    rintro e w1 ⟨rfl,rfl⟩
    go_wp2_with fail
    refine hK.out _ _ ?_ (fun hS1=>?_)
    ·exact hS0
    clear hK
    refine tkv 5 15 (.bool false) ?_
    refine tkv 6 16 (.bool false) ?_
    refine tkv 7 17 (.int .i64 k) ?_
    refine tkv 8 18 (.bool false) ?_
    refine tkv 9 19 (.bool false) ?_
    refine tku 10 20 ?_
    refine tku 11 21 ?_
    refine tku 12 22 ?_
    refine tku 13 23 ?_
    refine tku 14 24 ?_
    refine tku 15 25 ?_
    refine tku 16 26 ?_
    refine tku 17 27 ?_
    refine tku 18 28 ?_
    refine tku 19 29 ?_
    refine tkv 20 30 (.bool false) ?_
    refine tkv 21 31 (.bool false) ?_
    refine wpAnyH_done (by kernel_rfl) ?_ _
    have bz:Below w.heap.size w wr.drew:=Zm bw (by go_grown)
    clear hS0 hS1 c0
    go_wp2
    go_roundw
    case rel=>exact ⟨k+1,by omega,by go_num,HK2,bz⟩
    case measure=>simp [intOf];omega
   obtain ⟨m,rfl⟩:∃ m,k=m+1:=⟨k - 1,by omega⟩
   have d0:=hcell m (by omega)
   have hgt:(0:Int)<((m+1:Nat):Int):=by omega
   have hsub:IntKind.i64.wrap (((m+1:Nat):Int) - 1)=(m:Int):=by rw [IntKind.wrap_i64];omega
   have hm0:(0:Int)≤(m:Int):=by omega
   have hmn:(m:Int)<(n:Int):=by omega
   rw [show m+1 - 1=m from rfl,decide_eq_false (show ¬ m+1=0 by omega),Bool.false_or] at HS
   cases hT:decide (xs.getD (m) 0<xs.getD (m+1) 0)
   ·have HR:Hid (fin=false):=by rw [Hid,HF.out];exact YW (show m+1<xs.length by omega) (by rw [HS.out,hO,hT];rfl)
    clear HS HF HK hcell
    generalize xs.getD (m+1) 0=x at *
    generalize xs.getD m 0=y at *
    replace c0:=Zy bw c0
    replace d0:=Zy bw d0
    have kO:=fun W=>Tb x (Rx hxw) W
    rw [hO] at kO
    have hge:y ≥ x:=by simpa using hT
    skip
    skip
    clear hO hT
    go_wp2_with fail
    refine wp_region_held_drew (S:=(fun w'=>w'.cell? ⟨b,off+(m+1),none⟩=some (.int .i64 x)∧w'.cell? ⟨b,off+m,none⟩=some (.int .i64 y))) (by kernel_rfl) ⟨c0,d0⟩ (fun hS0=>?_)
    refine tkv 0 10 (.slice (some ⟨b,off,none⟩) n cap) ?_
    refine tkv 1 11 (.int .i64 ((m+1:Nat):Int)) ?_
    refine tkv 2 12 (.pointer (some ⟨b,off+(m+1),none⟩)) ?_
    refine tkv 3 13 (.int .i64 x) ?_
    refine tkr 4 14 (fun K hK=>?_)
    go_simp
    refine (kO _).mono ?_
    rintro e w1 ⟨rfl,rfl⟩
    go_wp2_with fail
    refine hK.out _ _ ?_ (fun hS1=>?_)
    ·exact hS0
    clear hK
    refine tkv 5 15 (.bool false) ?_
    refine tkv 6 16 (.bool false) ?_
    refine tkv 7 17 (.int .i64 ((m+1:Nat):Int)) ?_
    refine tkv 8 18 (.bool true) ?_
    refine tkv 9 19 (.bool true) ?_
    refine tkv 10 20 (.slice (some ⟨b,off,none⟩) n cap) ?_
    refine tkv 11 21 (.int .i64 ((m+1:Nat):Int)) ?_
    refine tkv 12 22 (.int .i64 (m:Int)) ?_
    refine tkv 13 23 (.pointer (some ⟨b,off+m,none⟩)) ?_
    refine tkv 14 24 (.int .i64 y) ?_
    refine tkv 15 25 (.slice (some ⟨b,off,none⟩) n cap) ?_
    refine tkv 16 26 (.int .i64 ((m+1:Nat):Int)) ?_
    refine tkv 17 27 (.pointer (some ⟨b,off+(m+1),none⟩)) ?_
    refine tkv 18 28 (.int .i64 x) ?_
    refine tkv 19 29 (.bool true) ?_
    refine tkv 20 30 (.bool true) ?_
    refine tkv 21 31 (.bool true) ?_
    refine wpAnyH_done (by kernel_rfl) ?_ _
    have bz:Below w.heap.size w wr.drew:=Zm bw (by go_grown)
    clear hS0 hS1 c0 d0 
    go_wp2
    go_ret
    exact ⟨by rw [HR.out];rfl,bz⟩
   have HK2:Hid (∀ i,i<m+1+1→UX xs i=true):=fun i hi=>by
    by_cases e:i=m+1
    ·rw [e,HS.out,hO,hT];rfl
    exact HK.out i (by omega)
   clear HS HK hcell
   generalize xs.getD (m+1) 0=x at *
   generalize xs.getD m 0=y at *
   replace c0:=Zy bw c0
   replace d0:=Zy bw d0
   have kO:=fun W=>Tb x (Rx hxw) W
   rw [hO] at kO
   have hge:¬ y ≥ x:=by simpa using hT
   skip
   skip
   clear hO hT
   go_wp2_with fail
   refine wp_region_held_drew (S:=(fun w'=>w'.cell? ⟨b,off+(m+1),none⟩=some (.int .i64 x)∧w'.cell? ⟨b,off+m,none⟩=some (.int .i64 y))) (by kernel_rfl) ⟨c0,d0⟩ (fun hS0=>?_)
   refine tkv 0 10 (.slice (some ⟨b,off,none⟩) n cap) ?_
   refine tkv 1 11 (.int .i64 ((m+1:Nat):Int)) ?_
   refine tkv 2 12 (.pointer (some ⟨b,off+(m+1),none⟩)) ?_
   refine tkv 3 13 (.int .i64 x) ?_
   refine tkr 4 14 (fun K hK=>?_)
   go_simp
   refine (kO _).mono ?_
   rintro e w1 ⟨rfl,rfl⟩
   go_wp2_with fail
   refine hK.out _ _ ?_ (fun hS1=>?_)
   ·exact hS0
   clear hK
   refine tkv 5 15 (.bool false) ?_
   refine tkv 6 16 (.bool false) ?_
   refine tkv 7 17 (.int .i64 ((m+1:Nat):Int)) ?_
   refine tkv 8 18 (.bool true) ?_
   refine tkv 9 19 (.bool true) ?_
   refine tkv 10 20 (.slice (some ⟨b,off,none⟩) n cap) ?_
   refine tkv 11 21 (.int .i64 ((m+1:Nat):Int)) ?_
   refine tkv 12 22 (.int .i64 (m:Int)) ?_
   refine tkv 13 23 (.pointer (some ⟨b,off+m,none⟩)) ?_
   refine tkv 14 24 (.int .i64 y) ?_
   refine tkv 15 25 (.slice (some ⟨b,off,none⟩) n cap) ?_
   refine tkv 16 26 (.int .i64 ((m+1:Nat):Int)) ?_
   refine tkv 17 27 (.pointer (some ⟨b,off+(m+1),none⟩)) ?_
   refine tkv 18 28 (.int .i64 x) ?_
   refine tkv 19 29 (.bool false) ?_
   refine tkv 20 30 (.bool false) ?_
   refine tkv 21 31 (.bool false) ?_
   refine wpAnyH_done (by kernel_rfl) ?_ _
   have bz:Below w.heap.size w wr.drew:=Zm bw (by go_grown)
   clear hS0 hS1 c0 d0 
   go_wp2
   go_roundw
   case rel=>exact ⟨m+1+1,by omega,by go_num,HK2,bz⟩
   case measure=>simp [intOf];omega
  obtain rfl:k=n:=by omega
  have HR:Hid (fin=true):=by rw [Hid,HF.out];exact XQ (fun i hi=>HK.out i (by omega))
  clear HF HK hcase
  go_wp2
  go_ret
  exact ⟨by rw [HR.out];rfl,bw⟩

end Go.Proofs.YtmhlokahmblboaaGreatDoor
