/-
  Joined: MrgB, EokI.
-/
import Derived.Deep.Cut
import Derived.Test.YthlcdhddickdiaaDoorR25
import Derived.Test.YthlcdhddickdiaaDoorR44

namespace Go.Proofs.YthlcdhddickdiaaDoor
set_option maxRecDepth 100000
set_option maxHeartbeats 16000000
open Go.RowKit
set_option linter.unusedVariables false
set_option linter.unusedSimpArgs false

def okBs (xs:List I3):Bool:=xs.all okB
theorem okBs_step {xs:List I3} {k:Nat} (hk:k<xs.length):okBs (xs.drop k)=(okB (xs.getD k (0,0,0)) && okBs (xs.drop (k+1))):=by
 unfold okBs
 rw [List.drop_eq_getElem_cons hk,List.all_cons,List.getD,List.getElem?_eq_getElem hk,Option.getD_some]
theorem bugsOK_is (a:Option Addr) (n cap:Nat) (xs:List I3) (w:World) (h:Instrs w a n cap xs) (hn:n≤1048576) :
  Calls Tryd.prog 88 #[.slice a n cap] w fun e w'=>e=.returned (.bool (okBs xs))∧Below w.heap.size w w':=by
 have hl:=h.1
 obtain ⟨r,hr⟩:∃ r,r=okBs xs:=⟨_,rfl⟩
 rw [← hr]
 have HR:Hid (r=okBs (xs.drop 0)):=by rw [Hid];simpa using hr
 clear hr
 go_enter Tryd.func88,Tryd.ntmps88
 go_wp2_with fail
 go_loopw [7] (fun si wr=>∃ k:Nat,k≤n∧si=.int .i64 k∧Hid (r=okBs (xs.drop k))∧Below w.heap.size w wr) (fun si _=>n - (intOf si).toNat)
 case atStart=>exact ⟨0,by omega,rfl,HR,Below.refl _ _⟩
 case round =>
  clear HR
  obtain ⟨k,hk,rfl,HR,bw⟩:=hrel
  by_cases hlt:k<n
  ·obtain ⟨_,_,_,_,hcase⟩:=h.below bw
   rcases hcase with e0 | ⟨b,off,rfl,hb,hc⟩
   ·omega
   obtain ⟨d0,d1,d2⟩:=hc k hlt
   clear hc hb
   have hst:=okBs_step (xs:=xs) (k:=k) (by omega)
   have kB:=implBugOK_is (xs.getD k (0,0,0))
   generalize xs.getD k (0,0,0)=x at *
   have HS:Hid (okBs (xs.drop k)=(okB x && okBs (xs.drop (k+1)))):=hst
   clear hst
   have hlt':(k:Int)<(n:Int):=by omega
   have hk0:(0:Int)≤(k:Int):=by omega
   cases hx:okB x
   ·have HF:Hid (r=false):=by rw [Hid,HR.out,HS.out,hx];rfl
    rw [hx] at kB
    clear hx HS HR
    obtain ⟨x0,x1,x2⟩:=x
    unfold I3.val at kB
    simp only at d0 d1 d2 kB
    go_wp2_with fail
    refine (kB _).mono ?_
    rintro e w1 ⟨rfl,hb1⟩
    have bw1:=bel_trans bw (bel_trans (by go_grown) hb1)
    clear hb1 d0 d1 d2 kB
    go_wp2
    go_ret
    exact ⟨by rw [HF.out];rfl,bw1⟩
   ·have HF:Hid (r=okBs (xs.drop (k+1))):=by rw [Hid,HR.out,HS.out,hx];rfl
    rw [hx] at kB
    clear hx HS HR
    obtain ⟨x0,x1,x2⟩:=x
    unfold I3.val at kB
    simp only at d0 d1 d2 kB
    go_wp2_with fail
    refine (kB _).mono ?_
    rintro e w1 ⟨rfl,hb1⟩
    have bw1:=bel_trans bw (bel_trans (by go_grown) hb1)
    clear hb1 d0 d1 d2 kB
    go_wp2
    go_roundw
    case rel=>exact ⟨k+1,by omega,by go_num,HF,bw1⟩
    case measure=>simp [intOf];omega
  ·obtain rfl:k=n:=by omega
   have HF:Hid (r=true):=by rw [Hid,HR.out,List.drop_of_length_le (by omega)];rfl
   clear HR
   go_wp2
   go_ret
   exact ⟨by rw [HF.out];rfl,bw⟩


theorem riseB_split (xs:List I3):riseB xs=(okBs xs && upB xs):=by
 rw [Bool.eq_iff_iff]
 simp only [riseB,okBs,upB,Bool.and_eq_true,List.all_eq_true,List.mem_range,bStep,stB]
 constructor
 ·intro h
  refine ⟨fun x hx=>?_,fun i hi=>(h i hi).2⟩
  obtain ⟨t,ht,rfl⟩:=List.getElem_of_mem hx
  have:=(h t ht).1
  simpa [List.getD,List.getElem?_eq_getElem ht] using this
 ·rintro ⟨h1,h2⟩ i hi
  exact ⟨h1 _ (by simp [List.getD,List.getElem?_eq_getElem hi]),h2 i hi⟩
theorem riseI_split (xs:List Int):riseI xs=(allIt xs && upI xs):=by
 rw [Bool.eq_iff_iff]
 simp only [riseI,allIt,upI,Bool.and_eq_true,List.all_eq_true,List.mem_range,iStep,stI]
 constructor
 ·intro h
  refine ⟨fun x hx=>?_,fun i hi=>(h i hi).2⟩
  obtain ⟨t,ht,rfl⟩:=List.getElem_of_mem hx
  have:=(h t ht).1
  simpa [List.getD,List.getElem?_eq_getElem ht] using this
 ·rintro ⟨h1,h2⟩ i hi
  exact ⟨h1 _ (by simp [List.getD,List.getElem?_eq_getElem hi]),h2 i hi⟩
theorem itemsOK9 (a:Option Addr) (n cap:Nat) (Z:List Int) (w:World) (h:Ints .i64 w a n cap Z) (hw:wfs Z) :
  Calls Tryd.prog 63 #[.slice a n cap] w fun e w'=>e=.returned (.bool (allIt Z))∧w=w':=by
 have hl:=h.1
 have hn:n≤maxLen:=Nat.le_trans h.2.1 h.2.2.1
 unfold maxLen at hn
 obtain ⟨r,hr⟩:∃ r,r=allIt Z:=⟨_,rfl⟩
 rw [← hr]
 have HR:Hid (r=allIt (Z.drop 0)):=by rw [Hid];simpa using hr
 clear hr
 go_enter Tryd.func63,Tryd.ntmps63
 go_wp2_with fail
 go_loopw [7] (fun si wr=>∃ k:Nat,k≤n∧si=.int .i64 k∧Hid (r=allIt (Z.drop k))∧w=wr) (fun si _=>n - (Go.RowKit.intOf si).toNat)
 case atStart=>exact ⟨0,by omega,rfl,HR,rfl⟩
 case round =>
  clear HR
  obtain ⟨k,hk,rfl,HR,rfl⟩:=hrel
  by_cases hlt:k<n
  ·have hm:=allIt_drop (xs:=Z) (k:=k) (by omega)
   have hx:=hw (Z.getD k 0) (by simp [List.getD,List.getElem?_eq_getElem (show k<Z.length by omega)])
   obtain ⟨_,_,_,hcase⟩:=h
   rcases hcase with e0 | ⟨b,off,rfl,hb,hc⟩
   ·omega
   have d0:=hc k hlt
   clear hc hb
   generalize Z.getD k 0=x at d0 hm hx
   have kO:=isItem_is x (in_wf8 hx)
   clear hx
   have HM:Hid (allIt (Z.drop k)=(itOk x && allIt (Z.drop (k+1)))):=hm
   clear hm
   have hlt':(k:Int)<(n:Int):=by omega
   have hk0:(0:Int)≤(k:Int):=by omega
   cases hE:itOk x
   ·rw [hE] at kO
    have HF:Hid (r=false):=by rw [Hid,HR.out,HM.out,hE];rfl
    clear HM HR hE
    go_wp2_with fail
    refine (kO _).mono ?_
    rintro e w1 ⟨rfl,rfl⟩
    go_wp2
    go_ret
    exact ⟨by rw [HF.out];rfl,rfl⟩
   ·rw [hE] at kO
    have HF:Hid (r=allIt (Z.drop (k+1))):=by rw [Hid,HR.out,HM.out,hE];rfl
    clear HM HR hE
    go_wp2_with fail
    refine (kO _).mono ?_
    rintro e w1 ⟨rfl,rfl⟩
    go_wp2
    go_roundw
    case rel=>exact ⟨k+1,by omega,by go_num,HF,by first | rfl | trivial⟩
    case measure=>simp [Go.RowKit.intOf];omega
  ·obtain rfl:k=n:=by omega
   have HF:Hid (r=true):=by rw [Hid,HR.out,List.drop_of_length_le (by omega)];rfl
   clear HR
   go_wp2
   go_ret
   exact ⟨by rw [HF.out];rfl,rfl⟩

theorem implVmOf_long9 (s:ByteArray) (w:World) (hs:s.size≤maxLen) (h:65536<s.size) :
  Calls Tryd.prog 61 #[.string s] w fun e w'=>e=.returned (.tuple #[.agg #[.slice none 0 0,.slice none 0 0,.slice none 0 0,.slice none 0 0],.int .i64 2])∧Below w.heap.size w w':=by
 unfold maxLen at hs
 have h2:(65536:Int)<(s.size:Int):=by omega
 go_enter Tryd.func61,Tryd.ntmps61
 go_wp2
 refine bodyPost_ret (results_blk2 Tryd.results61 _ _ _ _ _ _ rfl (Blk.new w 86 [.slice none 0 0,.slice none 0 0,.slice none 0 0,.slice none 0 0]) Tryd.underlying86 rfl (by kernel_rfl)) rfl ?_
 exact ⟨rfl,by go_grown⟩
def KeyC (s:ByteArray) (c:Int):Prop:=(keyOk9 s=true∧c=0)∨(keyOk9 s=false∧(c=2∨c=3))
theorem implVmOf_any (s:ByteArray) (w:World) (hs:s.size≤maxLen) (hV:VmShape w) :
  Calls Tryd.prog 61 #[.string s] w fun e w'=>(∃ z c,KeyC s c∧VmGot e w' w.heap.size z c)∧Below w.heap.size w w':=by
 by_cases hl:65536<s.size
 ·refine (implVmOf_long9 s w hs hl).mono ?_
  rintro e w' ⟨rfl,hb⟩
  have e9:keyOk9 s=false:=by unfold keyOk9;rw [decide_eq_false (by omega)];rfl
  exact ⟨⟨_,2,.inr ⟨e9,.inl rfl⟩,VmGot.mk9 ((none,0,0),(none,0,0),(none,0,0),(none,0,0)) rfl (ownV_nil _ _)⟩,hb⟩
 ·refine (implVmOf_is s w (by omega) hV).mono ?_
  rintro e w' ⟨hg,hb⟩
  refine ⟨⟨_,_,?_,hg⟩,hb⟩
  unfold KeyC vmOfC keyOk9
  rw [if_neg hl]
  by_cases h15:s.size=15
  ·rw [if_neg (fun h=>h h15),decide_eq_true h15,Bool.true_and]
   cases shapeOk (bytesV s)
   ·exact .inr ⟨rfl,.inr rfl⟩
   ·exact .inl ⟨rfl,rfl⟩
  ·rw [if_pos h15,decide_eq_false h15,Bool.false_and]
   exact .inr ⟨rfl,.inr rfl⟩

theorem entryBugsOK_is (a:Option Addr) (n cap:Nat) (xs:List I3) (w:World) (h:Instrs w a n cap xs) :
  Calls Tryd.prog 62 #[.slice a n cap] w fun e w'=>e=.returned (.bool (decide (xs.length≤30) && riseB xs))∧Below w.heap.size w w':=by
 rw [riseB_split]
 have hl:=h.1
 have kR:=fun W (hb:Below w.heap.size w W)=>risesB_is a n cap xs W (h.below hb)
 rw [hl]
 by_cases h30:n≤30
 ·have kB:=bugsOK_is a n cap xs w h (by omega)
  rw [decide_eq_true h30,Bool.true_and]
  have h3:(n:Int)≤30:=by omega
  generalize upB xs=u at *
  cases hO:okBs xs
  ·rw [hO] at kB
   rw [Bool.false_and]
   clear hO
   go_enter Tryd.func62,Tryd.ntmps62
   go_wp2_with fail
   refine kB.mono ?_
   rintro e w1 ⟨rfl,hb⟩
   go_wp2
   go_ret
   exact ⟨rfl,hb⟩
  ·rw [hO] at kB
   rw [Bool.true_and]
   clear hO
   go_enter Tryd.func62,Tryd.ntmps62
   go_wp2_with fail
   refine kB.mono ?_
   rintro e w1 ⟨rfl,hb⟩
   go_wp2_with fail
   refine (kR _ hb).mono ?_
   rintro e w2 ⟨rfl,hb2⟩
   replace hb:=bel8 hb hb2
   go_wp2
   go_ret
   exact ⟨rfl,hb⟩
 ·rw [decide_eq_false h30,Bool.false_and]
  have h3:¬ (n:Int)≤30:=by omega
  clear kR
  go_enter Tryd.func62,Tryd.ntmps62
  go_wp2
  go_ret
  exact ⟨rfl,Below.refl _ _⟩

theorem implEntryOK_is (e:E3) (s:Sl2) (w:World) (h:Emem w s e) (hV:VmShape w) :
  Calls Tryd.prog 37 #[entV e.1 s] w fun x w'=>x=.returned (.bool (entOk e))∧Below w.heap.size w w':=by
 obtain ⟨⟨hk,_⟩,hB,hF,hfw⟩:=h
 obtain ⟨ek,eb,ez⟩:=e
 obtain ⟨⟨a1,n1,c1⟩,⟨a2,n2,c2⟩⟩:=s
 unfold entV
 simp only at *
 have bw:Below w.heap.size w (w.alloc (.cells #[.string ek,.slice a1 n1 c1,.slice a2 n2 c2] 39)):=by go_grown
 have kK:=implVmOf_any ek _ hk (hV.below bw)
 have kR:=fun W (hb:Below w.heap.size w W)=>entryBugsOK_is a1 n1 c1 eb W (hB.below hb)
 have kI:=fun W (hb:Below w.heap.size w W)=>itemsOK9 a2 n2 c2 ez W (hF.below hb) hfw
 have kU:=fun W (hb:Below w.heap.size w W)=>risesI_is a2 n2 c2 ez W (hF.below hb)
 have pA:Blk (w.alloc (.cells #[.string ek,.slice a1 n1 c1,.slice a2 n2 c2] 39)) w.heap.size 39 [.string ek,.slice a1 n1 c1,.slice a2 n2 c2]:=blkAt _ _ _ rfl
 obtain ⟨fin,hfin⟩:∃ fin,fin=entOk (ek,eb,ez):=⟨_,rfl⟩
 rw [← hfin]
 have HF:Hid (fin=(keyOk9 ek && (decide (eb.length≤30) && riseB eb) && (allIt ez && upI ez))):=by
  rw [Hid,hfin,entOk]
  simp only
  rw [riseI_split]
  cases keyOk9 ek<;>cases riseB eb<;>cases allIt ez<;>cases upI ez<;>simp
 clear hfin hB hF hfw hV
 generalize (decide (eb.length≤30) && riseB eb)=rb at *
 generalize allIt ez=ai at *
 generalize upI ez=ui at *
 go_enter Tryd.func37,Tryd.ntmps37
 go_wp2_with fail
 refine kK.mono ?_
 rintro x w1 ⟨⟨z,c,hc,⟨⟨t0a,t0n,t0c⟩,⟨t1a,t1n,t1c⟩,⟨t2a,t2n,t2c⟩,⟨t3a,t3n,t3c⟩⟩,rfl,_⟩,hb⟩
 have ut:S4.val ((t0a,t0n,t0c),(t1a,t1n,t1c),(t2a,t2n,t2c),(t3a,t3n,t3c))=.agg #[.slice t0a t0n t0c,.slice t1a t1n t1c,.slice t2a t2n t2c,.slice t3a t3n t3c]:=rfl
 rw [ut]
 clear ut kK
 have bA:Below w1.heap.size w1 (w1.alloc (.cells #[.slice t0a t0n t0c,.slice t1a t1n t1c,.slice t2a t2n t2c,.slice t3a t3n t3c] 86)):=by go_grown
 replace bw:=bel8 bw (bel8 hb bA)
 replace pA:=pA.below (bel8 hb bA)
 clear hb bA
 have y1:=pA.cell 1
 simp only [List.getElem?_cons_zero,List.getElem?_cons_succ] at y1
 rcases hc with ⟨hK,rfl⟩ | ⟨hK,hc⟩
 ·rw [hK,Bool.true_and] at HF
  clear hK
  go_wp2_with fail
  generalize (w1.alloc (.cells #[.slice t0a t0n t0c,.slice t1a t1n t1c,.slice t2a t2n t2c,.slice t3a t3n t3c] 86))=U at *
  refine (kR _ bw).mono ?_
  rintro x w2 ⟨rfl,hb⟩
  replace bw:=bel8 bw hb
  replace pA:=pA.below hb
  clear hb kR y1
  have y2:=pA.cell 2
  simp only [List.getElem?_cons_zero,List.getElem?_cons_succ] at y2
  cases rb
  ·have HR:Hid (fin=false):=HF.out
   clear HF kI kU
   go_wp2
   go_ret
   exact ⟨by rw [HR.out];rfl,bw⟩
  ·rw [Bool.true_and] at HF
   go_wp2_with fail
   refine (kI _ bw).mono ?_
   rintro x w3 ⟨rfl,rfl⟩
   cases ai
   ·have HR:Hid (fin=false):=HF.out
    clear HF kI kU
    go_wp2
    go_ret
    exact ⟨by rw [HR.out];rfl,bw⟩
   ·rw [Bool.true_and] at HF
    go_wp2_with fail
    refine (kU _ bw).mono ?_
    rintro x w4 ⟨rfl,hb⟩
    replace bw:=bel8 bw hb
    clear hb kI kU y2 pA
    go_wp2
    go_ret
    exact ⟨by rw [HF.out];rfl,bw⟩
 ·have HR:Hid (fin=false):=by rw [Hid,HF.out,hK];rfl
  clear HF hK kR kI kU
  rcases hc with rfl | rfl
  ·go_wp2
   go_ret
   exact ⟨by rw [HR.out];rfl,bw⟩
  ·go_wp2
   go_ret
   exact ⟨by rw [HR.out];rfl,bw⟩
end Go.Proofs.YthlcdhddickdiaaDoor
