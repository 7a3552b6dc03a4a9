/-
  Joined: MrgB, EokI.
-/
import Derived.Test.YtnffeclgboomoaaGreatDoorT14
import Derived.Test.YtnffeclgboomoaaGreatDoorT17
import Derived.Test.YtnffeclgboomoaaGreatDoorT18

namespace Go.Proofs.YtnffeclgboomoaaGreatDoor
set_option maxRecDepth 100000
set_option maxHeartbeats 16000000
open Go.RowKit
set_option linter.unusedVariables false
set_option linter.unusedSimpArgs false

def Se (xs:List I3):Bool:=xs.all okB
def Wn (e:Ending) (w:World) (B:Nat) (zs:List I3):Prop:=∃ v,e=.returned v∧w.ownsRow B 127 3 v zs.length (Zm zs)
theorem Nl {zs:List I3} {x:I3} (h:∀ z ∈ zs,I3.fits z) (hx:I3.fits x):∀ z ∈ YE zs x,I3.fits z:=fun z hz=>by
 rcases Wg.1 hz with e | e
 ·exact h z e
 rw [e];exact hx
theorem Nm {xs ys:List I3} (h:∀ z ∈ xs,I3.fits z) (k:∀ z ∈ ys,I3.fits z):∀ z ∈ putAll xs ys,I3.fits z:=fun z hz=>by
 rcases Vv.1 hz with e | e
 ·exact h z e
 exact k z e
theorem SC (out xs:List I3) {k:Nat} (hk:k<xs.length):putAll out (xs.take (k+1))=YE (putAll out (xs.take k)) (xs.getD k (0,0,0)):=by
 unfold putAll
 rw [List.take_add_one,List.foldl_append,List.getElem?_eq_getElem hk]
 simp [List.getD,List.getElem?_eq_getElem hk]
theorem QH {xs:List I3} {k:Nat} (hk:k<xs.length):xs.getD k (0,0,0) ∈ xs:=by
 rw [List.getD,List.getElem?_eq_getElem hk,Option.getD_some]
 exact List.getElem_mem hk
def Qy (w wr:World) (v:Value) (zs:List I3):Prop:=(∃ g c,v=.slice (some ⟨g,0,none⟩) zs.length c)∧wr.ownsRow w.heap.size 127 3 v zs.length (Zm zs)∧(∀ z ∈ zs,I3.fits z)∧zs.length≤1000000

theorem Wd (a0:Option Addr) (n0 c0:Nat) (xs:List I3) (a1:Option Addr) (n1 c1:Nat) (ys:List I3) (w:World) (h0:Zl w a0 n0 c0 xs) (h1:Zl w a1 n1 c1 ys) (m0:n0≤400000) (m1:n1≤400000) :
  Calls Tryz.prog 172 #[.slice a0 n0 c0,.slice a1 n1 c1] w fun e w'=>Wn e w' w.heap.size (ZD xs ys)∧Below w.heap.size w w':=by
 have l0:=h0.1
 have l1:=h1.1
 have f0:=h0.2.2.2.1
 have f1:=h1.2.2.2.1
 have q0:Qy w (w.alloc (.cells #[] 127)) (.slice (some ⟨w.heap.size,0,none⟩) 0 0) []:=⟨⟨_,_,rfl⟩,Xb w 127 3 w.heap.size (Nat.le_refl _),by simp,by simp⟩
 have bw0:Below w.heap.size w (w.alloc (.cells #[] 127)):=by go_grown
 go_enter Tryz.func172,Tryz.ntmps172
 go_wp2_with fail
 generalize w.alloc (.cells #[] 127)=W0 at *
 go_loopw [5,6] (fun so si wr=>∃ (k:Nat) (v:Value),v=so∧k≤n0∧si=.int .i64 k∧Qy w wr v (putAll [] (xs.take k))∧Below w.heap.size w wr) (fun _ si _=>n0 - (intOf si).toNat)
 case atStart=>exact ⟨0,_,rfl,by omega,rfl,q0,bw0⟩
 case round =>
  clear q0 bw0
  obtain ⟨k,so,rfl,hk,rfl,⟨⟨g,c,rfl⟩,hq,hf,hz⟩,bw⟩:=hrel
  by_cases hlt:k<n0
  ·obtain ⟨zs,hzs⟩:∃ zs,zs=putAll [] (xs.take k):=⟨_,rfl⟩
   rw [← hzs] at hq hf hz
   try rw [← hzs]
   have hZ:=Zl.of_owns hq rfl hf rfl
   obtain ⟨_,_,_,_,hcase⟩:=h0.below bw
   rcases hcase with e0 | ⟨b,off,rfl,hb,hc⟩
   ·omega
   obtain ⟨d0,d1,d2⟩:=hc k hlt
   clear hc hb
   obtain ⟨x,hx⟩:∃ x,x=xs.getD k (0,0,0):=⟨_,rfl⟩
   have hfx:I3.fits x:=by rw [hx];exact f0 _ (QH (by omega))
   have hnew:YE zs x=putAll [] (xs.take (k+1)):=by rw [hzs,hx];exact (SC [] xs (by omega)).symm
   rw [← hx] at d0 d1 d2
   have HN:Hid (YE zs x=putAll [] (xs.take (k+1))):=hnew
   have hzl:zs.length≤k:=by rw [hzs];have:=XS (xs.take k) [];simp at this;omega
   clear hx hnew hzs
   have kP:=Uy g 0 zs.length c zs x wr hZ (by omega)
   have hpl:=TI zs x
   have hpf:=Nl hf hfx
   have hp0:0<(YE zs x).length:=List.length_pos_of_mem (Wg.2 (.inr rfl))
   generalize zs.length=m at *
   obtain ⟨x0,x1,x2⟩:=x
   unfold I3.val at kP
   simp only at d0 d1 d2 kP
   clear hZ hq
   have hlt':(k:Int)<(n0:Int):=by omega
   have hk0:(0:Int)≤(k:Int):=by omega
   go_wp2_with fail
   refine kP.mono ?_
   rintro e w1 ⟨⟨v1,rfl,hq1⟩,hb1⟩
   clear kP d0 d1 d2
   have bw1:=Zb bw hb1
   obtain ⟨g1,e1,rfl⟩:=YS hq1 hp0
   have hU:Qy w w1 (.slice (some ⟨g1,0,none⟩) (YE zs (x0,x1,x2)).length e1) (putAll [] (xs.take (k+1))):=by
    rw [← HN.out]
    exact ⟨⟨_,_,rfl⟩,YX hq1 bw.size,hpf,by omega⟩
   generalize (YE zs (x0,x1,x2)).length=m1 at *
   clear hq1 hpf
   go_wp2
   go_roundw
   case rel=>exact ⟨k+1,_,rfl,by omega,by go_num,hU,bw1⟩
   case measure=>simp [intOf];omega
  obtain rfl:k=n0:=by omega
  have hU:Qy w wr (.slice (some ⟨g,0,none⟩) (putAll [] (xs.take k)).length c) (putAll (putAll [] xs) (ys.take 0)):=by
   have e:xs.take k=xs:=List.take_of_length_le (by omega)
   rw [e] at hq hf hz ⊢
   exact ⟨⟨_,_,rfl⟩,hq,hf,hz⟩
  have hal:(putAll [] xs).length≤k:=by have:=XS xs [];simp at this;omega
  have haf:∀ z ∈ putAll [] xs,I3.fits z:=Nm (by simp) f0
  generalize (putAll [] (xs.take k)).length=m at *
  clear hq hf hz h0
  go_wp2_with fail
  go_loopw [5,7] (fun so si wr=>∃ (j:Nat) (v:Value),v=so∧j≤n1∧si=.int .i64 j∧Qy w wr v (putAll (putAll [] xs) (ys.take j))∧Below w.heap.size w wr) (fun _ si _=>n1 - (intOf si).toNat)
  case atStart=>exact ⟨0,_,rfl,by omega,rfl,hU,bw⟩
  case round =>
   clear hU bw
   obtain ⟨j,so,rfl,hj,rfl,⟨⟨g,c,rfl⟩,hq,hf,hz⟩,bw⟩:=hrel
   by_cases hltj:j<n1
   ·obtain ⟨zs,hzs⟩:∃ zs,zs=putAll (putAll [] xs) (ys.take j):=⟨_,rfl⟩
    rw [← hzs] at hq hf hz
    try rw [← hzs]
    have hZ:=Zl.of_owns hq rfl hf rfl
    obtain ⟨_,_,_,_,hcase⟩:=h1.below bw
    rcases hcase with e0 | ⟨b,off,rfl,hb,hc⟩
    ·omega
    obtain ⟨d0,d1,d2⟩:=hc j hltj
    clear hc hb
    obtain ⟨x,hx⟩:∃ x,x=ys.getD j (0,0,0):=⟨_,rfl⟩
    have hfx:I3.fits x:=by rw [hx];exact f1 _ (QH (by omega))
    have hnew:YE zs x=putAll (putAll [] xs) (ys.take (j+1)):=by rw [hzs,hx];exact (SC _ ys (by omega)).symm
    rw [← hx] at d0 d1 d2
    have HN:Hid (YE zs x=putAll (putAll [] xs) (ys.take (j+1))):=hnew
    have hzl:zs.length≤k+j:=by rw [hzs];have:=XS (ys.take j) (putAll [] xs);simp at this;omega
    clear hx hnew hzs
    have kP:=Uy g 0 zs.length c zs x _ hZ (by omega)
    have hpl:=TI zs x
    have hpf:=Nl hf hfx
    have hp0:0<(YE zs x).length:=List.length_pos_of_mem (Wg.2 (.inr rfl))
    generalize zs.length=mm at *
    obtain ⟨x0,x1,x2⟩:=x
    unfold I3.val at kP
    simp only at d0 d1 d2 kP
    clear hZ hq
    have hlt':(j:Int)<(n1:Int):=by omega
    have hk0:(0:Int)≤(j:Int):=by omega
    go_wp2_with fail
    refine kP.mono ?_
    rintro e w1 ⟨⟨v1,rfl,hq1⟩,hb1⟩
    clear kP d0 d1 d2
    have bw1:=Zb bw hb1
    obtain ⟨g1,e1,rfl⟩:=YS hq1 hp0
    have hU:Qy w w1 (.slice (some ⟨g1,0,none⟩) (YE zs (x0,x1,x2)).length e1) (putAll (putAll [] xs) (ys.take (j+1))):=by
     rw [← HN.out]
     exact ⟨⟨_,_,rfl⟩,YX hq1 bw.size,hpf,by omega⟩
    generalize (YE zs (x0,x1,x2)).length=m1 at *
    clear hq1 hpf
    go_wp2
    go_roundw
    case rel=>exact ⟨j+1,_,rfl,by omega,by go_num,hU,bw1⟩
    case measure=>simp [intOf];omega
   obtain rfl:j=n1:=by omega
   have e:ys.take j=ys:=List.take_of_length_le (by omega)
   rw [e] at hq hf hz
   try rw [e]
   obtain ⟨mm,hmm⟩:∃ mm,mm=(putAll (putAll [] xs) ys).length:=⟨_,rfl⟩
   rw [← hmm]
   have HQ:Hid (∀ e,e=.returned (.slice (some ⟨g,0,none⟩) mm c)→Wn e wr w.heap.size (ZD xs ys)):=fun e he=>⟨_,he,by rw [hmm];exact hq⟩
   clear hq hmm hz
   go_wp2
   go_ret
   exact ⟨HQ.out _ rfl,bw⟩

theorem Jl {xs:List I3} {k:Nat} (hk:k<xs.length):Se (xs.drop k)=(okB (xs.getD k (0,0,0)) && Se (xs.drop (k+1))):=by
 unfold Se
 rw [List.drop_eq_getElem_cons hk,List.all_cons,List.getD,List.getElem?_eq_getElem hk,Option.getD_some]
theorem Ko (a:Option Addr) (n cap:Nat) (xs:List I3) (w:World) (h:Zl w a n cap xs) (hn:n≤1048576) :
  Calls Tryz.prog 162 #[.slice a n cap] w fun e w'=>e=.returned (.bool (Se xs))∧Below w.heap.size w w':=by
 have hl:=h.1
 obtain ⟨r,hr⟩:∃ r,r=Se xs:=⟨_,rfl⟩
 rw [← hr]
 have HR:Hid (r=Se (xs.drop 0)):=by rw [Hid];simpa using hr
 clear hr
 go_enter Tryz.func162,Tryz.ntmps162
 go_wp2_with fail
 go_loopw [7] (fun si wr=>∃ k:Nat,k≤n∧si=.int .i64 k∧Hid (r=Se (xs.drop k))∧Below w.heap.size w wr) (fun si _=>n - (intOf si).toNat)
 case atStart=>exact ⟨0,by omega,rfl,HR,Below.refl _ _⟩
 case round =>
  clear HR
  obtain ⟨k,hk,rfl,HR,bw⟩:=hrel
  by_cases hlt:k<n
  ·obtain ⟨_,_,_,_,hcase⟩:=h.below bw
   rcases hcase with e0 | ⟨b,off,rfl,hb,hc⟩
   ·omega
   obtain ⟨d0,d1,d2⟩:=hc k hlt
   clear hc hb
   have hst:=Jl (xs:=xs) (k:=k) (by omega)
   have kB:=PA (xs.getD k (0,0,0))
   generalize xs.getD k (0,0,0)=x at *
   have HS:Hid (Se (xs.drop k)=(okB x && Se (xs.drop (k+1)))):=hst
   clear hst
   have hlt':(k:Int)<(n:Int):=by omega
   have hk0:(0:Int)≤(k:Int):=by omega
   cases hx:okB x
   ·have HF:Hid (r=false):=by rw [Hid,HR.out,HS.out,hx];rfl
    rw [hx] at kB
    clear hx HS HR
    obtain ⟨x0,x1,x2⟩:=x
    unfold I3.val at kB
    simp only at d0 d1 d2 kB
    go_wp2_with fail
    refine (kB _).mono ?_
    rintro e w1 ⟨rfl,hb1⟩
    have bw1:=Zb bw (Zb (by go_grown) hb1)
    clear hb1 d0 d1 d2 kB
    go_wp2
    go_ret
    exact ⟨by rw [HF.out];rfl,bw1⟩
   have HF:Hid (r=Se (xs.drop (k+1))):=by rw [Hid,HR.out,HS.out,hx];rfl
   rw [hx] at kB
   clear hx HS HR
   obtain ⟨x0,x1,x2⟩:=x
   unfold I3.val at kB
   simp only at d0 d1 d2 kB
   go_wp2_with fail
   refine (kB _).mono ?_
   rintro e w1 ⟨rfl,hb1⟩
   have bw1:=Zb bw (Zb (by go_grown) hb1)
   clear hb1 d0 d1 d2 kB
   go_wp2
   go_roundw
   case rel=>exact ⟨k+1,by omega,by go_num,HF,bw1⟩
   case measure=>simp [intOf];omega
  obtain rfl:k=n:=by omega
  have HF:Hid (r=true):=by rw [Hid,HR.out,List.drop_of_length_le (by omega)];rfl
  clear HR
  go_wp2
  go_ret
  exact ⟨by rw [HF.out];rfl,bw⟩


theorem N1 (xs:List I3):Wi xs=(Se xs && upB xs):=by
 rw [Bool.eq_iff_iff]
 simp only [Wi,Se,upB,Bool.and_eq_true,List.all_eq_true,List.mem_range,Tc,stB]
 constructor
 ·intro h
  refine ⟨fun x hx=>?_,fun i hi=>(h i hi).2⟩
  obtain ⟨t,ht,rfl⟩:=List.getElem_of_mem hx
  have:=(h t ht).1
  simpa [List.getD,List.getElem?_eq_getElem ht] using this
 rintro ⟨h1,h2⟩ i hi
 exact ⟨h1 _ (by simp [List.getD,List.getElem?_eq_getElem hi]),h2 i hi⟩
theorem N2 (xs:List Int):Wm xs=(WA xs && upI xs):=by
 rw [Bool.eq_iff_iff]
 simp only [Wm,WA,upI,Bool.and_eq_true,List.all_eq_true,List.mem_range,UI,stI]
 constructor
 ·intro h
  refine ⟨fun x hx=>?_,fun i hi=>(h i hi).2⟩
  obtain ⟨t,ht,rfl⟩:=List.getElem_of_mem hx
  have:=(h t ht).1
  simpa [List.getD,List.getElem?_eq_getElem ht] using this
 rintro ⟨h1,h2⟩ i hi
 exact ⟨h1 _ (by simp [List.getD,List.getElem?_eq_getElem hi]),h2 i hi⟩
def Rb (es:List E3):Bool:=es.all ZS
theorem Kl {es:List E3} {k:Nat} (h:k<es.length):Rb (es.drop k)=(ZS (es.getD k e3d) && Rb (es.drop (k+1))):=by
 unfold Rb
 rw [List.drop_eq_getElem_cons h,List.all_cons]
 simp [List.getD,List.getElem?_eq_getElem h]
theorem NL (es:List E3):Yu es=(decide (es.length≤2000) && (Rb es && upE es)):=by
 rw [Bool.eq_iff_iff]
 simp only [Yu,Rb,upE,Bool.and_eq_true,List.all_eq_true,List.mem_range,VB,stE]
 constructor
 ·rintro ⟨h,h2⟩
  refine ⟨h2,fun x hx=>?_,fun i hi=>(h i hi).2⟩
  obtain ⟨t,ht,rfl⟩:=List.getElem_of_mem hx
  have:=(h t ht).1
  simpa [List.getD,List.getElem?_eq_getElem ht] using this
 rintro ⟨h0,h1,h2⟩
 exact ⟨fun i hi=>⟨h1 _ (by simp [List.getD,List.getElem?_eq_getElem hi]),h2 i hi⟩,h0⟩

theorem Hk (a:Option Addr) (n cap:Nat) (Z:List Int) (w:World) (h:Z2 .i64 w a n cap Z) (hw:wfs Z) :
  Calls Tryz.prog 51 #[.slice a n cap] w fun e w'=>e=.returned (.bool (WA Z))∧w=w':=by
 have hl:=h.1
 have hn:n≤maxLen:=Nat.le_trans h.2.1 h.2.2.1
 unfold maxLen at hn
 obtain ⟨r,hr⟩:∃ r,r=WA Z:=⟨_,rfl⟩
 rw [← hr]
 have HR:Hid (r=WA (Z.drop 0)):=by rw [Hid];simpa using hr
 clear hr
 go_enter Tryz.func51,Tryz.ntmps51
 go_wp2_with fail
 go_loopw [7] (fun si wr=>∃ k:Nat,k≤n∧si=.int .i64 k∧Hid (r=WA (Z.drop k))∧w=wr) (fun si _=>n - (Go.RowKit.intOf si).toNat)
 case atStart=>exact ⟨0,by omega,rfl,HR,rfl⟩
 case round =>
  clear HR
  obtain ⟨k,hk,rfl,HR,rfl⟩:=hrel
  by_cases hlt:k<n
  ·have hm:=Mw (xs:=Z) (k:=k) (by omega)
   have hx:=hw (Z.getD k 0) (by simp [List.getD,List.getElem?_eq_getElem (show k<Z.length by omega)])
   obtain ⟨_,_,_,hcase⟩:=h
   rcases hcase with e0 | ⟨b,off,rfl,hb,hc⟩
   ·omega
   have d0:=hc k hlt
   clear hc hb
   generalize Z.getD k 0=x at d0 hm hx
   have kO:=KR x (Rt hx)
   clear hx
   have HM:Hid (WA (Z.drop k)=(Y7 x && WA (Z.drop (k+1)))):=hm
   clear hm
   have hlt':(k:Int)<(n:Int):=by omega
   have hk0:(0:Int)≤(k:Int):=by omega
   cases hE:Y7 x
   ·rw [hE] at kO
    have HF:Hid (r=false):=by rw [Hid,HR.out,HM.out,hE];rfl
    clear HM HR hE
    go_wp2_with fail
    refine (kO _).mono ?_
    rintro e w1 ⟨rfl,rfl⟩
    go_wp2
    go_ret
    exact ⟨by rw [HF.out];rfl,rfl⟩
   rw [hE] at kO
   have HF:Hid (r=WA (Z.drop (k+1))):=by rw [Hid,HR.out,HM.out,hE];rfl
   clear HM HR hE
   go_wp2_with fail
   refine (kO _).mono ?_
   rintro e w1 ⟨rfl,rfl⟩
   go_wp2
   go_roundw
   case rel=>exact ⟨k+1,by omega,by go_num,HF,by first | rfl | trivial⟩
   case measure=>simp [Go.RowKit.intOf];omega
  obtain rfl:k=n:=by omega
  have HF:Hid (r=true):=by rw [Hid,HR.out,List.drop_of_length_le (by omega)];rfl
  clear HR
  go_wp2
  go_ret
  exact ⟨by rw [HF.out];rfl,rfl⟩

theorem Rs (s:ByteArray) (w:World) (hs:s.size≤maxLen) (h:65536<s.size) :
  Calls Tryz.prog 112 #[.string s] w fun e w'=>e=.returned (.tuple #[.agg #[.slice none 0 0,.slice none 0 0,.slice none 0 0,.slice none 0 0],.int .i64 2])∧Below w.heap.size w w':=by
 unfold maxLen at hs
 have h2:(65536:Int)<(s.size:Int):=by omega
 go_enter Tryz.func112,Tryz.ntmps112
 go_wp2
 refine bodyPost_ret (Zp Tryz.results112 _ _ _ _ _ _ rfl (Blk.new w 112 [.slice none 0 0,.slice none 0 0,.slice none 0 0,.slice none 0 0]) Tryz.underlying112 rfl (by kernel_rfl)) rfl ?_
 exact ⟨rfl,by go_grown⟩
def FF (s:ByteArray) (c:Int):Prop:=(YP s=true∧c=0)∨(YP s=false∧(c=2∨c=3))
theorem PC (s:ByteArray) (w:World) (hs:s.size≤maxLen) (hV:ZL w) :
  Calls Tryz.prog 112 #[.string s] w fun e w'=>(∃ z c,FF s c∧Yn e w' w.heap.size z c)∧Below w.heap.size w w':=by
 by_cases hl:65536<s.size
 ·refine (Rs s w hs hl).mono ?_
  rintro e w' ⟨rfl,hb⟩
  have e9:YP s=false:=by unfold YP;rw [decide_eq_false (by omega)];rfl
  exact ⟨⟨_,2,.inr ⟨e9,.inl rfl⟩,Yn.mk9 ((none,0,0),(none,0,0),(none,0,0),(none,0,0)) rfl (Vh _ _)⟩,hb⟩
 refine (Nu s w (by omega) hV).mono ?_
 rintro e w' ⟨hg,hb⟩
 refine ⟨⟨_,_,?_,hg⟩,hb⟩
 unfold FF Gv YP
 rw [if_neg hl]
 by_cases h15:s.size=15
 ·rw [if_neg (fun h=>h h15),decide_eq_true h15,Bool.true_and]
  cases Zd (ZC s)
  ·exact .inr ⟨rfl,.inr rfl⟩
  exact .inl ⟨rfl,rfl⟩
 rw [if_pos h15,decide_eq_false h15,Bool.false_and]
 exact .inr ⟨rfl,.inr rfl⟩

theorem Rm (a:Option Addr) (n cap:Nat) (xs:List I3) (w:World) (h:Zl w a n cap xs) :
  Calls Tryz.prog 113 #[.slice a n cap] w fun e w'=>e=.returned (.bool (decide (xs.length≤30) && Wi xs))∧Below w.heap.size w w':=by
 rw [N1]
 have hl:=h.1
 have kR:=fun W (hb:Below w.heap.size w W)=>Jy a n cap xs W (h.below hb)
 rw [hl]
 by_cases h30:n≤30
 ·have kB:=Ko a n cap xs w h (by omega)
  rw [decide_eq_true h30,Bool.true_and]
  have h3:(n:Int)≤30:=by omega
  generalize upB xs=u at *
  cases hO:Se xs
  ·rw [hO] at kB
   rw [Bool.false_and]
   clear hO
   go_enter Tryz.func113,Tryz.ntmps113
   go_wp2_with fail
   refine kB.mono ?_
   rintro e w1 ⟨rfl,hb⟩
   go_wp2
   go_ret
   exact ⟨rfl,hb⟩
  rw [hO] at kB
  rw [Bool.true_and]
  clear hO
  go_enter Tryz.func113,Tryz.ntmps113
  go_wp2_with fail
  refine kB.mono ?_
  rintro e w1 ⟨rfl,hb⟩
  go_wp2_with fail
  refine (kR _ hb).mono ?_
  rintro e w2 ⟨rfl,hb2⟩
  replace hb:=Zh hb hb2
  go_wp2
  go_ret
  exact ⟨rfl,hb⟩
 rw [decide_eq_false h30,Bool.false_and]
 have h3:¬ (n:Int)≤30:=by omega
 clear kR
 go_enter Tryz.func113,Tryz.ntmps113
 go_wp2
 go_ret
 exact ⟨rfl,Below.refl _ _⟩

theorem VT (e:E3) (s:Sl2) (w:World) (h:Z1 w s e) (hV:ZL w) :
  Calls Tryz.prog 60 #[ZR e.1 s] w fun x w'=>x=.returned (.bool (ZS e))∧Below w.heap.size w w':=by
 obtain ⟨⟨hk,_⟩,hB,hF,hfw⟩:=h
 obtain ⟨ek,eb,ez⟩:=e
 obtain ⟨⟨a1,n1,c1⟩,⟨a2,n2,c2⟩⟩:=s
 unfold ZR
 simp only at *
 have bw:Below w.heap.size w (w.alloc (.cells #[.string ek,.slice a1 n1 c1,.slice a2 n2 c2] 45)):=by go_grown
 have kK:=PC ek _ hk (hV.below bw)
 have kR:=fun W (hb:Below w.heap.size w W)=>Rm a1 n1 c1 eb W (hB.below hb)
 have kI:=fun W (hb:Below w.heap.size w W)=>Hk a2 n2 c2 ez W (hF.below hb) hfw
 have kU:=fun W (hb:Below w.heap.size w W)=>JA a2 n2 c2 ez W (hF.below hb)
 have pA:Blk (w.alloc (.cells #[.string ek,.slice a1 n1 c1,.slice a2 n2 c2] 45)) w.heap.size 45 [.string ek,.slice a1 n1 c1,.slice a2 n2 c2]:=Zi _ _ _ rfl
 obtain ⟨fin,hfin⟩:∃ fin,fin=ZS (ek,eb,ez):=⟨_,rfl⟩
 rw [← hfin]
 have HF:Hid (fin=(YP ek && (decide (eb.length≤30) && Wi eb) && (WA ez && upI ez))):=by
  rw [Hid,hfin,ZS]
  simp only
  rw [N2]
  cases YP ek<;>cases Wi eb<;>cases WA ez<;>cases upI ez<;>simp
 clear hfin hB hF hfw hV
 generalize (decide (eb.length≤30) && Wi eb)=rb at *
 generalize WA ez=ai at *
 generalize upI ez=ui at *
 go_enter Tryz.func60,Tryz.ntmps60
 go_wp2_with fail
 refine kK.mono ?_
 rintro x w1 ⟨⟨z,c,hc,⟨⟨t0a,t0n,t0c⟩,⟨t1a,t1n,t1c⟩,⟨t2a,t2n,t2c⟩,⟨t3a,t3n,t3c⟩⟩,rfl,_⟩,hb⟩
 have ut:S4.val ((t0a,t0n,t0c),(t1a,t1n,t1c),(t2a,t2n,t2c),(t3a,t3n,t3c))=.agg #[.slice t0a t0n t0c,.slice t1a t1n t1c,.slice t2a t2n t2c,.slice t3a t3n t3c]:=rfl
 rw [ut]
 clear ut kK
 have bA:Below w1.heap.size w1 (w1.alloc (.cells #[.slice t0a t0n t0c,.slice t1a t1n t1c,.slice t2a t2n t2c,.slice t3a t3n t3c] 112)):=by go_grown
 replace bw:=Zh bw (Zh hb bA)
 replace pA:=pA.below (Zh hb bA)
 clear hb bA
 have y1:=pA.cell 1
 simp only [List.getElem?_cons_zero,List.getElem?_cons_succ] at y1
 rcases hc with ⟨hK,rfl⟩ | ⟨hK,hc⟩
 ·rw [hK,Bool.true_and] at HF
  clear hK
  go_wp2_with fail
  generalize (w1.alloc (.cells #[.slice t0a t0n t0c,.slice t1a t1n t1c,.slice t2a t2n t2c,.slice t3a t3n t3c] 112))=U at *
  refine (kR _ bw).mono ?_
  rintro x w2 ⟨rfl,hb⟩
  replace bw:=Zh bw hb
  replace pA:=pA.below hb
  clear hb kR y1
  have y2:=pA.cell 2
  simp only [List.getElem?_cons_zero,List.getElem?_cons_succ] at y2
  cases rb
  ·have HR:Hid (fin=false):=HF.out
   clear HF kI kU
   go_wp2
   go_ret
   exact ⟨by rw [HR.out];rfl,bw⟩
  rw [Bool.true_and] at HF
  go_wp2_with fail
  refine (kI _ bw).mono ?_
  rintro x w3 ⟨rfl,rfl⟩
  cases ai
  ·have HR:Hid (fin=false):=HF.out
   clear HF kI kU
   go_wp2
   go_ret
   exact ⟨by rw [HR.out];rfl,bw⟩
  rw [Bool.true_and] at HF
  go_wp2_with fail
  refine (kU _ bw).mono ?_
  rintro x w4 ⟨rfl,hb⟩
  replace bw:=Zh bw hb
  clear hb kI kU y2 pA
  go_wp2
  go_ret
  exact ⟨by rw [HF.out];rfl,bw⟩
 have HR:Hid (fin=false):=by rw [Hid,HF.out,hK];rfl
 clear HF hK kR kI kU
 rcases hc with rfl | rfl
 ·go_wp2
  go_ret
  exact ⟨by rw [HR.out];rfl,bw⟩
 go_wp2
 go_ret
 exact ⟨by rw [HR.out];rfl,bw⟩
end Go.Proofs.YtnffeclgboomoaaGreatDoor
