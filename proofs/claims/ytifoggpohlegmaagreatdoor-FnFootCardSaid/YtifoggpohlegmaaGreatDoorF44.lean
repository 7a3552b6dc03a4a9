/-
  Joined: FotI, NrmQ.
-/
import Derived.Test.YtifoggpohlegmaaGreatDoorF41

namespace Go.Proofs.YtifoggpohlegmaaGreatDoor
set_option maxRecDepth 100000
set_option maxHeartbeats 16000000
open Go.RowKit
set_option linter.unusedVariables false
set_option linter.unusedSimpArgs false

theorem info_ints8:(Tryz.prog.info? 27).map (fun i=>(i.zero,i.size,i.bytes))=some (some (.slice none 0 0),1,24):=by kernel_rfl
theorem rcC_one8 (cs:Sl × Sl × Sl) (r:Rec6 V4) {mv:Value} (h:mv.oneCell'=true):(rcC cs r mv).all (·.oneCell')=true:=by
 unfold rcC
 rw [List.all_cons,List.all_append,mach_one]
 simp only [List.all_cons,List.all_nil,h,Bool.and_true,Bool.and_self]
 rfl
theorem SpcD.mvone8 {w:World} {B nb:Nat} {vs:Value} {cs:Sl × Sl × Sl} {M:V4→List I4} {L:List (Rec6 V4 × Value)} (h:SpcD w B nb vs cs M L L.length) {j:Nat} {r:Rec6 V4} {mv:Value} (hr:L[j]?=some (r,mv)):mv.oneCell'=true:=by
 obtain ⟨a,k,c,rfl⟩:=own_slice6 (h.mvs j r mv (List.getElem?_eq_some_iff.1 hr).1 hr)
 rfl
def AllO (w:World) (B:Nat) (vs:List Value) (xss:List (List Int)):Prop:=vs.length=xss.length∧∀ t,t<xss.length→w.ownsRow B 3 1 (vs.getD t undef) (xss.getD t []).length ((xss.getD t []).map (Value.int .i64))
theorem AllO.below {w w':World} {B:Nat} {vs:List Value} {xss:List (List Int)} (h:AllO w B vs xss) (hb:Below w.heap.size w w'):AllO w' B vs xss:=⟨h.1,fun t ht=>owns8 (h.2 t ht) hb⟩
theorem AllO.nil (w:World) (B:Nat):AllO w B [] []:=⟨rfl,fun t ht=>by simp at ht⟩
theorem AllO.kept {w w':World} {B B' n:Nat} {v:Value} {xs vs:List Value} {xss:List (List Int)} (h:AllO w B vs xss) (ho:w.ownsRow B' 27 1 v n xs) (hg:w.grownBy w' v.ownBlock):AllO w' B vs xss:=
 ⟨h.1,fun t ht=>(h.2 t ht).kept hg (Ap3.types (h.2 t ht) ho (by decide)).or⟩
theorem AllO.snoc {w:World} {B:Nat} {vs:List Value} {xss:List (List Int)} {v:Value} {xs:List Int} (h:AllO w B vs xss) (hv:w.ownsRow B 3 1 v xs.length (xs.map (Value.int .i64))):AllO w B (vs++[v]) (xss++[xs]):=by
 refine ⟨by simp [h.1],fun t ht=>?_⟩
 by_cases h9:t<xss.length
 ·have e1:(vs++[v]).getD t undef=vs.getD t undef:=by simp [List.getD,List.getElem?_append_left (show t<vs.length by have:=h.1;omega)]
  have e2:(xss++[xs]).getD t []=xss.getD t []:=by simp [List.getD,List.getElem?_append_left h9]
  rw [e1,e2]
  exact h.2 t h9
 ·have e9:t=xss.length:=by simp at ht;omega
  subst e9
  have e1:(vs++[v]).getD xss.length undef=v:=by rw [← h.1];simp [List.getD]
  have e2:(xss++[xs]).getD xss.length []=xs:=by simp [List.getD]
  rw [e1,e2]
  exact hv
theorem AllO.allL {w:World} {B:Nat} {vs:List Value} {xss:List (List Int)} (h:AllO w B vs xss):AllL w vs xss:=⟨h.1,fun t ht=>by
 have q:=h.2 t ht
 obtain ⟨a,c,e⟩:=slice8 q
 rw [e] at q ⊢
 exact ⟨a,_,c,rfl,ints8 q⟩⟩
theorem range_below {w w':World} {g o:Nat} {cs:List Value} (h:w.rangeAt g o cs) (hb:Below w.heap.size w w'):w'.rangeAt g o cs:=fun j v hj=>cell8 hb (h j v hj)

theorem foot_is {w:World} {B X nb:Nat} {vs:Value} {cs:Sl × Sl × Sl} {M:V4→List I4} {L:List (Rec6 V4 × Value)} (hS:SpcD w B nb vs cs M L L.length) (hX:Blk w X 106 [vs,.map (some nb)]) (hsh:Shaped (L.map (·.1))) (hl:L.length≤2000) :
  Calls Tryz.prog 108 #[.pointer (some ⟨X,0,none⟩)] w fun e w'=>RowGot e w' w.heap.size (mrgI ((L.map (·.1)).flatMap fun r=>lookM r.1))∧Below w.heap.size w w':=by
 obtain ⟨i0,hi0,hz0,hz1,hz2⟩:=info_parts info_ints8
 obtain ⟨va,vn,vc,rfl⟩:=own_slice6 hS.row
 obtain rfl:vn=L.length:=by
  rcases hS.row.2 with ⟨h1,h2⟩ | ⟨gq,cq,cur,h1,_⟩
  ·cases h1;exact h2.symm
  ·cases h1;rfl
 have cX0:w.cell? ⟨X,0,none⟩=some (.slice va L.length vc):=by simpa using hX.cell 0
 have hFl:((L.map fun x=>lookM x.1.1).flatten)=(L.map (·.1)).flatMap fun r=>lookM r.1:=by simp [List.flatMap,Function.comp_def]
 have hFn:(L.map fun x=>lookM x.1.1).flatten.length≤6000:=by
  have e:(L.map fun x=>lookM x.1.1).flatten.length=3*L.length:=by
   clear hS hX hsh hl cX0 hFl
   induction L with
   | nil=>rfl
   | cons x L ih=>simp only [List.map_cons,List.flatten_cons,List.length_append,ih,List.length_cons];simp only [lookM,List.length_cons,List.length_nil];omega
  omega
 have hFw:∀ x ∈ (L.map fun x=>lookM x.1.1).flatten,(Lit.int .i64 x).wf=true:=fun x hx=>by
  rw [List.mem_flatten] at hx
  obtain ⟨l,hl9,hx⟩:=hx
  obtain ⟨y,hy,rfl⟩:=List.mem_map.1 hl9
  exact itOk_wf (look_ok (hsh y.1 (List.mem_map.2 ⟨y,hy,rfl⟩)) x hx)
 rw [← hFl]
 clear hFl
 go_enter Tryz.func108,Tryz.ntmps108
 go_wp2_with fail
 go_loopw [3,11] (fun s3 s11 wr=>∃ (j:Nat) (us:List Value),s11=.int .i64 j∧j≤L.length∧wr.ownsRow w.heap.size 27 1 s3 j us∧AllO wr w.heap.size us ((L.take j).map fun x=>lookM x.1.1)∧Below w.heap.size w wr) (fun _ s11 _=>L.length - (Go.RowKit.intOf s11).toNat)
 case atStart=>exact ⟨0,[],rfl,Nat.zero_le _,World.ownsRow_nil _ _ _ _,AllO.nil _ _,Below.refl _ _⟩
 case round =>
  obtain ⟨j,us,rfl,hjl,q,hA,bw⟩:=hrel
  by_cases hlt:j<L.length
  ·obtain ⟨r,mv,hr⟩:∃ r mv,L[j]?=some (r,mv):=⟨L[j].1,L[j].2,by rw [List.getElem?_eq_getElem hlt]⟩
   obtain ⟨g,c,e9,hg,hrg⟩:=hS.at9 hr
   have hmv:=hS.mvone8 hr
   cases e9
   replace hrg:=range_below hrg bw
   have hs:=hsh r (List.mem_map.2 ⟨_,List.mem_of_getElem? hr,rfl⟩)
   have hlt3:(j:Int)<(L.length:Int):=by omega
   have hj0:(0:Int)≤(j:Int):=by omega
   have HT:Hid (((L.take (j+1)).map fun x=>lookM x.1.1)=((L.take j).map fun x=>lookM x.1.1)++[lookM r.1]):=by
    rw [Hid,List.take_add_one,hr]
    simp
   clear hr
   have pN:=Blk.new wr 111 [.string ⟨#[]⟩,.slice none 0 0,.int .i64 0,.int .i64 0,.int .i64 0,.slice none 0 0,.int .i64 0,.int .i64 0,.int .i64 0,.slice none 0 0,.int .i64 0,.int .i64 0,.int .i64 0,.int .i64 0,.int .i64 0,.int .i64 0,.int .i64 0,.int .i64 0,.int .i64 0,.int .i64 0,.int .i64 0,.slice none 0 0]
   have hbN:Below wr.heap.size wr (wr.alloc (.cells #[.string ⟨#[]⟩,.slice none 0 0,.int .i64 0,.int .i64 0,.int .i64 0,.slice none 0 0,.int .i64 0,.int .i64 0,.int .i64 0,.slice none 0 0,.int .i64 0,.int .i64 0,.int .i64 0,.int .i64 0,.int .i64 0,.int .i64 0,.int .i64 0,.int .i64 0,.int .i64 0,.int .i64 0,.int .i64 0,.slice none 0 0] 111)):=by go_grown
   go_wp2_with (first | refine wpList_load_mid rfl 111 _ rfl g (j*22) rfl (rcC cs r mv) _ hrg Tryz.underlying111 rfl (by kernel_rfl) ?_ | refine wpList_store_blk rfl 111 _ _ rfl wr.heap.size (rcC cs r mv) rfl rfl pN (by kernel_rfl) rfl (rcC_one8 cs r hmv) ?_)
   intro w3 p3 g3
   have pE:=p3.out
   have b3:Below wr.heap.size wr w3:=hbN.grown g3 hbN.size (fun k e=>by cases e;exact Nat.le_refl _)
   have kL:=looks_is wr.heap.size 1 cs r.1 w3 (by have:=range_mach (blk_range pE);simpa using this) hs
   replace q:=owns8 q b3
   replace hA:=hA.below b3
   replace bw:=bel8 bw b3
   clear p3 g3 hbN pN b3 hrg pE
   generalize wr.heap.size=E at *
   go_wp2_with fail
   refine kL.mono ?_
   rintro e w4 ⟨⟨vl,rfl,ql⟩,hb⟩
   have hsz:=bw.size
   replace q:=owns8 q hb
   replace hA:=hA.below hb
   replace bw:=bel8 bw hb
   replace ql:=lower8 ql hsz
   clear hb kL hsz
   obtain ⟨la,lc,rfl⟩:=slice8 ql
   have hsz:=bw.size
   generalize hlk:lookM r.1=lk at *
   go_wp2_with (at_builtin;refine wpList_append_own _ rfl _ _ 148 rfl w.heap.size 27 i0 (.slice none 0 0) 1 24 Tryz.underlying148 hi0 hz0 hz1 hz2 rfl (by decide) _ _ _ rfl (q.alloc _) ⟨w4.heap.size,0,none⟩ 1 1 [.slice la lk.length lc] rfl rfl (cell_one_new _ _ _) (by simp [Value.oneCell']) ?c3 ?c4 ?c5 ?_)
   case c3=>unfold maxLen;omega
   case c4=>omega
   case c5=>simp;omega
   intro v5 w5 q5 g5 _
   have ha:Below w4.heap.size w4 (w4.alloc (.cells #[.slice la lk.length lc] 27)):=by go_grown
   have hA5:=((hA.below ha).snoc (owns8 ql ha)).kept (q.alloc _) g5
   have bw5:=(bel8 bw ha).grown g5 (bel8 bw ha).size (fun k hk=>(q.lt k hk).1)
   clear ha g5 q hA bw ql
   go_wp2
   go_roundw
   case rel=>exact ⟨j+1,_,by go_num,by omega,q5,by rw [HT.out];exact hA5,bw5⟩
   case measure=>simp [Go.RowKit.intOf];omega
  ·have hlt3:¬ (j:Int)<(L.length:Int):=by omega
   obtain rfl:j=L.length:=by omega
   rw [List.take_of_length_le (Nat.le_refl _)] at hA
   obtain ⟨ra,rc,rfl⟩:=slice8 q
   have kM:=merged_is ra L.length rc _ wr (RowsI.own q (by simp) hA.allL) (by omega) (by omega) hFw
   have hsz:=bw.size
   clear q hA
   go_wp2_with fail
   refine kM.mono ?_
   rintro e w6 ⟨⟨v6,rfl,q6⟩,hb⟩
   replace q6:=lower8 q6 hsz
   replace bw:=bel8 bw hb
   clear hb kM
   go_wp2
   go_ret
   exact ⟨⟨_,rfl,q6⟩,bw⟩

theorem nil_row8 (w:World) (B:Nat):OwnI w B (none,0,0) []:=World.ownsRow_nil _ _ _ _
theorem implFootOf_is (a:Option Addr) (len cap:Nat) (rows:List (List I3)) (s:S4) (m:V4) (w:World) (hC:Codes w a len cap rows) (h:Vmem w s m) (hV:VmShape w) :
  Calls Tryz.prog 47 #[.agg #[.slice a len cap],s.val] w fun e w'=>(∃ t:Sl,e=.returned (.tuple #[.slice t.1 t.2.1 t.2.2,.int .i64 (footC rows m)])∧OwnI w' w.heap.size t (footA rows m))∧Below w.heap.size w w':=by
 have kB:=fun (W:World) (hb:Below w.heap.size w W)=>spaceOf_bad a len cap rows s m W (hC.below hb) (h.below hb) (hV.below hb)
 have kS:=fun (W:World) (hb:Below w.heap.size w W)=>spaceOf_isM a len cap rows s m W (hC.below hb) (h.below hb) (hV.below hb)
 obtain ⟨⟨a0,n0,c0⟩,⟨a1,n1,c1⟩,⟨a2,n2,c2⟩,⟨a3,n3,c3⟩⟩:=s
 have uA:S4.val ((a0,n0,c0),(a1,n1,c1),(a2,n2,c2),(a3,n3,c3))=.agg #[.slice a0 n0 c0,.slice a1 n1 c1,.slice a2 n2 c2,.slice a3 n3 c3]:=rfl
 rw [uA] at kB kS ⊢
 clear uA h hC hV
 obtain ⟨cd,hcd⟩:∃ cd,cd=footC rows m:=⟨_,rfl⟩
 obtain ⟨zs,hzs⟩:∃ zs,zs=footA rows m:=⟨_,rfl⟩
 rw [← hcd,← hzs]
 have bw:Below w.heap.size w ((w.alloc (.cells #[.slice a len cap] 25)).alloc (.cells #[.slice a0 n0 c0,.slice a1 n1 c1,.slice a2 n2 c2,.slice a3 n3 c3] 33)):=by go_grown
 have pP:Blk ((w.alloc (.cells #[.slice a len cap] 25)).alloc (.cells #[.slice a0 n0 c0,.slice a1 n1 c1,.slice a2 n2 c2,.slice a3 n3 c3] 33)) w.heap.size 25 [.slice a len cap]:=blkOld _ (blkAt _ _ _ rfl)
 have pS:Blk ((w.alloc (.cells #[.slice a len cap] 25)).alloc (.cells #[.slice a0 n0 c0,.slice a1 n1 c1,.slice a2 n2 c2,.slice a3 n3 c3] 33)) (w.heap.size+1) 33 [.slice a0 n0 c0,.slice a1 n1 c1,.slice a2 n2 c2,.slice a3 n3 c3]:=blkAt _ _ _ (by simp)
 go_enter Tryz.func47,Tryz.ntmps47
 go_wp2_with fail
 generalize ((w.alloc (.cells #[.slice a len cap] 25)).alloc (.cells #[.slice a0 n0 c0,.slice a1 n1 c1,.slice a2 n2 c2,.slice a3 n3 c3] 33))=U at *
 cases hok:(progOk rows && shapeOk m)
 ·have kx:=kB U bw hok
  have HZ:Hid (zs=[]∧cd=1):=⟨by rw [hzs];exact footA_bad hok,by rw [hcd];exact footC_bad hok⟩
  clear hcd hzs kB kS hok
  go_wp2_with (first | refine wpList_load_blk rfl 25 _ rfl w.heap.size rfl pP _ Tryz.underlying25 rfl (by kernel_rfl) ?_ | refine wpList_load_blk rfl 33 _ rfl (w.heap.size+1) rfl pS _ Tryz.underlying33 rfl (by kernel_rfl) ?_)
  refine kx.mono ?_
  rintro e w1 ⟨rfl,hb⟩
  replace bw:=bel8 bw hb
  clear hb kx pP pS
  have pN:=Blk.new w1 106 [.slice none 0 0,.map none]
  have hbN:Below w1.heap.size w1 (w1.alloc (.cells #[.slice none 0 0,.map none] 106)):=by go_grown
  go_wp2_with (refine wpList_store_blk rfl 106 _ _ rfl w1.heap.size [.slice none 0 0,.map none] rfl rfl pN (by kernel_rfl) rfl rfl ?_)
  intro w2 p2 g2
  have b2:Below w1.heap.size w1 w2:=hbN.grown g2 hbN.size (fun k e=>by cases e;exact Nat.le_refl _)
  replace bw:=bel8 bw b2
  clear p2 g2 hbN pN b2
  go_wp2
  go_ret2
  exact ⟨by rw [HZ.out.1,HZ.out.2];exact ⟨(none,0,0),rfl,nil_row8 _ _⟩,bw⟩
 ·obtain ⟨hp,hs⟩:=both_ok hok
  have kx:=kS U bw hp hs
  by_cases hf:(fullM rows m).length≤2000
  ·have hsz:=bw.size
   clear kB kS
   go_wp2_with (first | refine wpList_load_blk rfl 25 _ rfl w.heap.size rfl pP _ Tryz.underlying25 rfl (by kernel_rfl) ?_ | refine wpList_load_blk rfl 33 _ rfl (w.heap.size+1) rfl pS _ Tryz.underlying33 rfl (by kernel_rfl) ?_)
   refine kx.mono ?_
   intro e w1 hg
   rw [if_pos hf] at hg
   obtain ⟨vs,nb,cs,L,rfl,sp,hLF,hR',hb⟩:=hg
   obtain ⟨va,vn,vc,rfl⟩:=own_slice6 sp.row
   obtain rfl:vn=L.length:=by
    rcases sp.row.2 with ⟨h1,h2⟩ | ⟨gq,cq,cur,h1,_⟩
    ·cases h1;exact h2.symm
    ·cases h1;rfl
   have hlen:(fullM rows m).length=L.length:=by rw [← hLF];simp
   replace bw:=bel8 bw hb
   clear hb kx pP pS hR'
   have pN:=Blk.new w1 106 [.slice none 0 0,.map none]
   have hbN:Below w1.heap.size w1 (w1.alloc (.cells #[.slice none 0 0,.map none] 106)):=by go_grown
   go_wp2_with (refine wpList_store_blk rfl 106 _ _ rfl w1.heap.size [.slice va L.length vc,.map (some nb)] rfl rfl pN (by kernel_rfl) rfl rfl ?_)
   intro w2 p2 g2
   have pX:=p2.out
   have b2:Below w1.heap.size w1 w2:=hbN.grown g2 hbN.size (fun k e=>by cases e;exact Nat.le_refl _)
   replace bw:=bel8 bw b2
   replace sp:=sp.below b2
   clear p2 g2 hbN pN b2
   generalize w1.heap.size=X at *
   have cX0:w2.cell? ⟨X,0,none⟩=some (.slice va L.length vc):=by simpa using pX.cell 0
   by_cases h2:L.length<2000
   ·have h29:(L.length:Int)<2000:=by omega
    have HZ:Hid (zs=mrgI ((L.map (·.1)).flatMap fun r=>lookM r.1)∧cd=0):=⟨by rw [hzs,hLF];exact footA_ok hok (by omega),by rw [hcd];exact footC_ok hok (by omega)⟩
    have kF:=foot_is sp pX (by rw [hLF];exact fullM_shaped hp hs) (by omega)
    have hsz2:=bw.size
    clear hcd hzs hok hf hLF
    go_wp2_with fail
    refine kF.mono ?_
    rintro e w3 ⟨⟨v3,rfl,q3⟩,hb⟩
    replace q3:=lower8 q3 hsz2
    obtain ⟨ta,tc,rfl⟩:=slice8 q3
    replace bw:=bel8 bw hb
    clear hb kF
    go_wp2
    go_ret2
    refine ⟨?_,bw⟩
    rw [HZ.out.1,HZ.out.2]
    exact ⟨(ta,_,tc),rfl,q3⟩
   ·have h29:¬ (L.length:Int)<2000:=by omega
    have h28:(2000:Int)≤(L.length:Int):=by omega
    have HZ:Hid (zs=[]∧cd=15):=⟨by rw [hzs];exact footA_much hok (by omega),by rw [hcd];exact footC_much hok (by omega)⟩
    clear hcd hzs hok hf hLF hlen sp
    go_wp2
    go_ret2
    exact ⟨by rw [HZ.out.1,HZ.out.2];first | exact ⟨(none,0,0),rfl,nil_row8 _ _⟩ | exact ⟨none,0,0,rfl,nil_row8 _ _⟩,bw⟩
  ·have HZ:Hid (zs=[]∧cd=15):=⟨by rw [hzs];exact footA_much hok (by omega),by rw [hcd];exact footC_much hok (by omega)⟩
   clear hcd hzs kB kS hok
   go_wp2_with (first | refine wpList_load_blk rfl 25 _ rfl w.heap.size rfl pP _ Tryz.underlying25 rfl (by kernel_rfl) ?_ | refine wpList_load_blk rfl 33 _ rfl (w.heap.size+1) rfl pS _ Tryz.underlying33 rfl (by kernel_rfl) ?_)
   refine kx.mono ?_
   intro e w1 hg
   rw [if_neg hf] at hg
   obtain ⟨rfl,hb⟩:=hg
   replace bw:=bel8 bw hb
   clear hb kx pP pS
   have pN:=Blk.new w1 106 [.slice none 0 0,.map none]
   have hbN:Below w1.heap.size w1 (w1.alloc (.cells #[.slice none 0 0,.map none] 106)):=by go_grown
   go_wp2_with (refine wpList_store_blk rfl 106 _ _ rfl w1.heap.size [.slice none 0 0,.map none] rfl rfl pN (by kernel_rfl) rfl rfl ?_)
   intro w2 p2 g2
   have b2:Below w1.heap.size w1 w2:=hbN.grown g2 hbN.size (fun k e=>by cases e;exact Nat.le_refl _)
   replace bw:=bel8 bw b2
   clear p2 g2 hbN pN b2
   go_wp2
   go_ret2
   exact ⟨by rw [HZ.out.1,HZ.out.2];exact ⟨(none,0,0),rfl,nil_row8 _ _⟩,bw⟩


theorem depM_symm (x y:I4):depM x y=depM y x:=by
 unfold depM
 by_cases h1:x.1=y.1
 ·simp [h1]
 ·have h1':¬ y.1=x.1:=fun e=>h1 e.symm
  by_cases h2:x.2.2.2=y.2.2.2
  ·simp only [h1,h1',h2,decide_false,Bool.false_or,decide_true,Bool.and_true]
   rw [Bool.and_comm (decide (x.2.2.1=1))]
  ·have h2':¬ y.2.2.2=x.2.2.2:=fun e=>h2 e.symm
   simp [h1,h1',h2,h2']
def Sw1 (es es':List I4):Prop:=∃ a x y b,es=a++x::y::b∧es'=a++y::x::b∧depM x y=false
inductive Sw:List I4→List I4→Prop
 | refl (es:List I4):Sw es es
 | step {es es' es'':List I4}:Sw es es'→Sw1 es' es''→Sw es es''
theorem Sw1.symm {es es':List I4} (h:Sw1 es es'):Sw1 es' es:=by
 obtain ⟨a,x,y,b,h1,h2,h3⟩:=h
 exact ⟨a,y,x,b,h2,h1,by rw [depM_symm];exact h3⟩
theorem Sw.trans {a b c:List I4} (h:Sw a b) (g:Sw b c):Sw a c:=by
 induction g with
 | refl=>exact h
 | step _ s ih=>exact .step ih s
theorem Sw.symm {a b:List I4} (h:Sw a b):Sw b a:=by
 induction h with
 | refl=>exact .refl _
 | step _ s ih=>exact (Sw.step (.refl _) s.symm).trans ih
theorem Sw1.cons {es es':List I4} (e:I4) (h:Sw1 es es'):Sw1 (e::es) (e::es'):=by
 obtain ⟨a,x,y,b,h1,h2,h3⟩:=h
 exact ⟨e::a,x,y,b,by rw [h1];rfl,by rw [h2];rfl,h3⟩
theorem Sw.cons {es es':List I4} (e:I4) (h:Sw es es'):Sw (e::es) (e::es'):=by
 induction h with
 | refl=>exact .refl _
 | step _ s ih=>exact .step ih (s.cons e)
end Go.Proofs.YtifoggpohlegmaaGreatDoor
