/-
  Joined: LokA, FotS, FotP, FotI, SlpP, FtoW, FotE.
-/
import Derived.Test.YtfpopbbmnbehiaaGreatDoorC16
import Derived.Test.YtfpopbbmnbehiaaGreatDoorC49
import Derived.Test.YtfpopbbmnbehiaaGreatDoorC52
import Derived.Test.YtfpopbbmnbehiaaGreatDoorC51
import Derived.Test.YtfpopbbmnbehiaaGreatDoorC17

namespace Go.Proofs.YtfpopbbmnbehiaaGreatDoor
set_option maxRecDepth 100000
set_option maxHeartbeats 16000000
open Go.RowKit
set_option linter.unusedVariables false
set_option linter.unusedSimpArgs false

theorem look_take (m:V4) {k:Nat} (hk:k<3):(lookM m).take (k+1)=(lookM m).take k++[8*(k:Int)+m.1.getD k 0]:=by
 match k,hk with
 | 0,_=>simp [lookM]
 | 1,_=>simp [lookM]
 | 2,_=>simp [lookM]
theorem l08Looks_is (s:S4) (m:V4) (w:World) (h:Vmem w s m) (hs:shapeOk m=true) :
  Calls Tryz.prog 128 #[s.val] w fun e w'=>RowGot e w' w.heap.size (lookM m)∧Below w.heap.size w w':=by
 obtain ⟨i0,hi,hz0,hz1,hz2⟩:=info_parts info_int
 obtain ⟨h1,_⟩:=h
 have hl3:=(shape_parts hs).1
 have hpc:=fun k hk=>pcs_ok hs (k:=k) hk
 obtain ⟨⟨a0,n0,c0⟩,⟨a1,n1,c1⟩,⟨a2,n2,c2⟩,⟨a3,n3,c3⟩⟩:=s
 have uA:S4.val ((a0,n0,c0),(a1,n1,c1),(a2,n2,c2),(a3,n3,c3))=.agg #[.slice a0 n0 c0,.slice a1 n1 c1,.slice a2 n2 c2,.slice a3 n3 c3]:=rfl
 simp only [uA] at *
 clear uA
 replace h1:Ints .i64 w a0 n0 c0 m.1:=h1.1
 have bw:Below w.heap.size w ((w.alloc (.cells #[.slice a0 n0 c0,.slice a1 n1 c1,.slice a2 n2 c2,.slice a3 n3 c3] 33)).alloc (.cells #[] 3)):=by go_grown
 have pS:Blk ((w.alloc (.cells #[.slice a0 n0 c0,.slice a1 n1 c1,.slice a2 n2 c2,.slice a3 n3 c3] 33)).alloc (.cells #[] 3)) w.heap.size 33 [.slice a0 n0 c0,.slice a1 n1 c1,.slice a2 n2 c2,.slice a3 n3 c3]:=blkOld _ (blkAt _ _ _ rfl)
 have q0:=empty8 (w.alloc (.cells #[.slice a0 n0 c0,.slice a1 n1 c1,.slice a2 n2 c2,.slice a3 n3 c3] 33)) 3 1 (w.heap.size+1) (by simp)
 go_enter Tryz.func128,Tryz.ntmps128
 go_wp2_with fail
 generalize (w.alloc (.cells #[.slice a0 n0 c0,.slice a1 n1 c1,.slice a2 n2 c2,.slice a3 n3 c3] 33)).alloc (.cells #[] 3)=W0 at *
 simp only [World.size_alloc] at q0
 go_loopw [3,4] (fun so si wr=>∃ (k:Nat) (v:Value),v=so∧k≤3∧si=.int .i64 k∧wr.ownsRow (w.heap.size+1) 3 1 v k (((lookM m).take k).map (Value.int .i64))∧Blk wr w.heap.size 33 [.slice a0 n0 c0,.slice a1 n1 c1,.slice a2 n2 c2,.slice a3 n3 c3]∧Below w.heap.size w wr) (fun _ si _=>3 - (Go.RowKit.intOf si).toNat)
 case atStart=>exact ⟨0,_,rfl,by omega,rfl,q0,pS,bw⟩
 case round =>
  clear q0 pS bw
  obtain ⟨k,so,rfl,hk,rfl,q,pS,bw⟩:=hrel
  by_cases hlt:k<3
  ·have hk3:(k:Int)<3:=by omega
   have hk0:(0:Int)≤(k:Int):=by omega
   have hln:=h1.1
   have hkn:(k:Int)<(n0:Int):=by omega
   have HT:Hid ((lookM m).take (k+1)=(lookM m).take k++[8*(k:Int)+m.1.getD k 0]):=look_take m hlt
   have kI:=l08Item_is (k:Int) (m.1.getD k 0) wr (inB8_true.2 (by omega)) (hpc k hlt)
   obtain ⟨_,_,_,hcase⟩:=h1.below bw
   rcases hcase with e0 | ⟨b,off,rfl,hb9,hc⟩
   ·omega
   have d0:=hc k (by omega)
   have gS0:wr.cell? ⟨w.heap.size,0,none⟩=some (.slice (some ⟨b,off,none⟩) n0 c0):=by simpa using pS.cell 0
   generalize m.1.getD k 0=p at d0 HT kI
   have hsz:=bw.size
   have hsl:=pS.lt
   clear hc hb9 hln
   go_wp2_with fail
   refine kI.mono ?_
   rintro e w3 ⟨rfl,rfl⟩
   clear kI
   generalize 8*(k:Int)+p=zz at *
   go_wp2_with (at_builtin;refine wpList_append_own _ rfl _ _ 31 rfl (w.heap.size+1) 3 i0 (.int .i64 0) 1 8 Tryz.underlying31 hi hz0 hz1 hz2 rfl (by decide) _ _ _ rfl (q.alloc _) ⟨wr.heap.size,0,none⟩ 1 1 [.int .i64 zz] rfl rfl (cell_one_new _ _ _) (by simp [Value.oneCell']) ?c3 ?c4 ?c5 ?_)
   case c3=>unfold maxLen;omega
   case c4=>omega
   case c5=>simp;omega
   intro v' wn hown' hgrow _
   have R:wn.ownsRow (w.heap.size+1) 3 1 v' (k+1) (((lookM m).take (k+1)).map (Value.int .i64)):=by
    rw [HT.out,List.map_append]
    simpa [List.map_take] using hown'
   have bn:Below w.heap.size w wn:=(bw.alloc hsz _).grown hgrow (by simp;omega) (fun k hk=>by have:=(q.lt k hk).1;omega)
   have pn:Blk wn w.heap.size 33 [.slice (some ⟨b,off,none⟩) n0 c0,.slice a1 n1 c1,.slice a2 n2 c2,.slice a3 n3 c3]:=(pS.below (by go_grown:Below wr.heap.size wr (wr.alloc (.cells #[.int .i64 zz] 3)))).kept hgrow (fun e=>by have:=(q.lt _ e).1;omega)
   clear hown' hgrow q bw pS HT gS0 d0
   go_wp2
   go_roundw
   case rel=>exact ⟨k+1,_,rfl,by omega,by go_num,R,pn,bn⟩
   case measure=>simp [Go.RowKit.intOf];omega
  ·obtain rfl:k=3:=by omega
   obtain ⟨ga,gc,rfl⟩:=some8 q (by omega)
   go_wp2
   go_ret
   exact ⟨⟨_,rfl,lower8 q (by omega)⟩,bw⟩


def nxV (rows:List (List I3)) (m:V4):List V4:=(enabM rows m 3).map fun k=>(goM rows m k).1
abbrev ftF (rows:List (List I3)):Nat→V4→St8 V4→St8 V4:=dfsF (nxV rows) lookM
abbrev ftL (rows:List (List I3)):Nat→List V4→St8 V4→St8 V4:=dfsL (nxV rows) lookM
def FtOk (st:St8 V4):Prop:=(∀ x ∈ st.1,shapeOk x=true)∧st.1.length≤2000∧st.2.length≤3*st.1.length
theorem nxV_shape {rows:List (List I3)} (hp:progOk rows=true) {m:V4} (hs:shapeOk m=true):∀ y ∈ nxV rows m,shapeOk y=true:=fun y hy=>by
 obtain ⟨k,hk,rfl⟩:=List.mem_map.1 hy
 exact goM_shape hp hs (enab_halt hk)
theorem ftOk_put {m:V4} {st:St8 V4} (hs:shapeOk m=true) (h:FtOk st) (hl:st.1.length<2000):FtOk (st.1++[m],mrgI (st.2++lookM m)):=by
 obtain ⟨h1,h2,h3⟩:=h
 refine ⟨fun x hx=>?_,by simp;omega,?_⟩
 ·rcases List.mem_append.1 hx with hx | hx
  ·exact h1 x hx
  ·simp at hx;subst hx;exact hs
 ·have:=mrgI_len (st.2++lookM m)
  simp [lookM] at this ⊢
  omega
theorem ftF_ok {rows:List (List I3)} (hp:progOk rows=true) (f:Nat) {m:V4} {st:St8 V4} (hs:shapeOk m=true) (h:FtOk st) (hl:st.1.length<2000):FtOk (ftF rows f m st):=
 (dfs_inv (nxV rows) lookM FtOk (fun m=>shapeOk m=true) (fun x hx=>nxV_shape hp hx) (fun m st hs h _ hl=>ftOk_put hs h hl) f).1 m st hs h hl
theorem key_mem {S:List V4} (hS:∀ x ∈ S,shapeOk x=true) {m:V4} (hm:shapeOk m=true):keyT m ∈ S.map keyT↔m ∈ S:=by
 constructor
 ·intro h
  obtain ⟨x,hx,e⟩:=List.mem_map.1 h
  rw [← key_inj6 (hS x hx) hm e]
  exact hx
 ·exact fun h=>List.mem_map.2 ⟨m,h,rfl⟩
def FtGot (e:Ending) (w':World) (st:St8 V4):Prop:=∃ sb so sc fa fc,e=.returned (.tuple #[.slice (some ⟨sb,so,none⟩) st.1.length sc,.slice fa st.2.length fc])∧Strs w' (some ⟨sb,so,none⟩) st.1.length sc (st.1.map keyT)∧Ints .i64 w' fa st.2.length fc st.2
def FtC (rows:List (List I3)) (cap f:Nat):Prop:=∀ (m:V4) (st:St8 V4),shapeOk m=true→leftN rows m<f→FtOk st→st.1.length<2000→∀ (w:World) (a9:Option Addr) (cs:Sl × Sl × Sl) (s:S4) (sb so sc:Nat) (fa:Option Addr) (fc:Nat),RowsAt w a9 cs rows→Vmem w s m→Strs w (some ⟨sb,so,none⟩) st.1.length sc (st.1.map keyT)→Ints .i64 w fa st.2.length fc st.2 →
  Calls Tryz.prog 85 #[.agg #[.slice a9 3 cap],s.val,.slice (some ⟨sb,so,none⟩) st.1.length sc,.slice fa st.2.length fc] w fun e w'=>FtGot e w' (ftF rows f m st)∧Below w.heap.size w w'
theorem strs_news {w:World} {b off n c:Nat} {ts:List ByteArray} (h:Strs w (some ⟨b,off,none⟩) n c ts):∀ j u,(ts.map Value.string)[j]?=some u→w.cell? ((⟨b,off,none⟩:Addr).add j)=some u:=by
 intro j u hj
 obtain ⟨hl,_,_,hcase⟩:=h
 have hjl:j<ts.length:=by simpa using (List.getElem?_eq_some_iff.1 hj).1
 rcases hcase with h0 | ⟨b',off',he,hb,hc⟩
 ·omega
 ·cases he
  have:=hc j (by omega)
  have e:(⟨b,off,none⟩:Addr).add j=⟨b,off+j,none⟩:=by unfold Addr.add;split<;>simp_all
  rw [e,this]
  simp [List.getElem?_eq_getElem hjl] at hj
  simp [List.getD,List.getElem?_eq_getElem hjl,hj]
theorem one_strs (ts:List ByteArray):∀ u ∈ ts.map Value.string,u.oneCell'=true:=by
 intro u hu
 obtain ⟨x,_,rfl⟩:=List.mem_map.1 hu
 rfl
theorem strs_own {w:World} {B n c:Nat} {a:Option Addr} {ts:List ByteArray} (h:w.ownsRow B 9 1 (.slice a n c) n (ts.map Value.string)):Strs w a n c ts:=by
 obtain ⟨a',c',e,hO⟩:=OwnT.of_owns h
 cases e
 exact hO.strs
structure OnFt (rows:List (List I3)) (f:Nat) (m:V4) (R:St8 V4) (w5 wr:World) (s2 s3:Value) (i:Nat) (sti:St8 V4):Prop where
 eq:ftL rows f ((nxV rows m).drop i) sti=R
 ok:FtOk sti
 sn:∃ sb so sc,s2=.slice (some ⟨sb,so,none⟩) sti.1.length sc∧Strs wr (some ⟨sb,so,none⟩) sti.1.length sc (sti.1.map keyT)
 ft:∃ fa fc,s3=.slice fa sti.2.length fc∧Ints .i64 wr fa sti.2.length fc sti.2
 bl:Below w5.heap.size w5 wr

theorem foot_step {rows:List (List I3)} {cap:Nat} (hp:progOk rows=true) {f:Nat} (ih:FtC rows cap f):FtC rows cap (f+1):=by
 intro m st hs hf hok hl w a9 cs s sb so sc fa fc hR h hS hF
 obtain ⟨i0,hi0,hz0,hz1,hz2⟩:=info_parts info_str6
 obtain ⟨⟨t0a,t0n,t0c⟩,⟨t1a,t1n,t1c⟩,⟨t2a,t2n,t2c⟩,⟨t3a,t3n,t3c⟩⟩:=s
 have ut:S4.val ((t0a,t0n,t0c),(t1a,t1n,t1c),(t2a,t2n,t2c),(t3a,t3n,t3c))=.agg #[.slice t0a t0n t0c,.slice t1a t1n t1c,.slice t2a t2n t2c,.slice t3a t3n t3c]:=rfl
 have kK:=fun (W:World) (b:Below w.heap.size w W)=>l03Key_is ((t0a,t0n,t0c),(t1a,t1n,t1c),(t2a,t2n,t2c),(t3a,t3n,t3c)) m W (h.below b) hs
 have kE:=fun (W:World) (b:Below w.heap.size w W)=>l03Enabled_is a9 3 cap rows ((t0a,t0n,t0c),(t1a,t1n,t1c),(t2a,t2n,t2c),(t3a,t3n,t3c)) m cs W rfl (hR.below b) (h.below b) hp hs
 have kL:=fun (W:World) (b:Below w.heap.size w W)=>l08Looks_is ((t0a,t0n,t0c),(t1a,t1n,t1c),(t2a,t2n,t2c),(t3a,t3n,t3c)) m W (h.below b) hs
 have kF:=fun (W:World) (b:Below w.heap.size w W)=>l06Find_is (some ⟨sb,so,none⟩) st.1.length sc (st.1.map keyT) (keyT m) W (hS.below b) (by omega)
 rw [ut] at kK kE kL ⊢
 obtain ⟨R,hR0⟩:∃ R,R=ftF rows (f+1) m st:=⟨_,rfl⟩
 rw [← hR0]
 have hfi:=findT_iff (ts:=st.1.map keyT) (t:=keyT m) st.1.length (by simp)
 rw [List.take_of_length_le (by simp),key_mem hok.1 hs] at hfi
 have bw:Below w.heap.size w ((w.alloc (.cells #[.slice a9 3 cap] 25)).alloc (.cells #[.slice t0a t0n t0c,.slice t1a t1n t1c,.slice t2a t2n t2c,.slice t3a t3n t3c] 33)):=by go_grown
 have pP:Blk ((w.alloc (.cells #[.slice a9 3 cap] 25)).alloc (.cells #[.slice t0a t0n t0c,.slice t1a t1n t1c,.slice t2a t2n t2c,.slice t3a t3n t3c] 33)) w.heap.size 25 [.slice a9 3 cap]:=blkOld _ (blkAt _ _ _ rfl)
 have pS:Blk ((w.alloc (.cells #[.slice a9 3 cap] 25)).alloc (.cells #[.slice t0a t0n t0c,.slice t1a t1n t1c,.slice t2a t2n t2c,.slice t3a t3n t3c] 33)) (w.heap.size+1) 33 [.slice t0a t0n t0c,.slice t1a t1n t1c,.slice t2a t2n t2c,.slice t3a t3n t3c]:=blkAt _ _ _ (by simp)
 go_enter Tryz.func85,Tryz.ntmps85
 go_wp2_with fail
 generalize ((w.alloc (.cells #[.slice a9 3 cap] 25)).alloc (.cells #[.slice t0a t0n t0c,.slice t1a t1n t1c,.slice t2a t2n t2c,.slice t3a t3n t3c] 33))=w0 at *
 have kKx:=kK w0 bw
 go_wp2_with (refine wpList_load_blk rfl 33 _ rfl (w.heap.size+1) rfl pS _ Tryz.underlying33 rfl (by kernel_rfl) ?_)
 refine kKx.mono ?_
 rintro e w1 ⟨rfl,hb⟩
 replace bw:=bel_trans bw hb
 replace pP:=pP.below hb
 replace pS:=pS.below hb
 have kFx:=kF w1 bw
 clear hb kKx kK kF
 generalize findT (st.1.map keyT) (keyT m) st.1.length=fi at *
 go_wp2_with fail
 refine kFx.mono ?_
 rintro e w2 ⟨rfl,rfl⟩
 clear kFx
 by_cases h0:0≤fi
 ·have hm:m ∈ st.1:=hfi.1 h0
  have HR:Hid (R=st):=by rw [Hid,hR0];exact dfsF_old _ _ f hm
  have hS2:=hS.below bw
  have hF2:=hF.below bw
  clear hR0 hfi hm kE kL
  go_wp2
  go_ret2
  exact ⟨by rw [HR.out];exact ⟨_,_,_,_,_,rfl,hS2,hF2⟩,bw⟩
 have hm:m ∉ st.1:=fun hm=>h0 (hfi.2 hm)
 have h0':fi<0:=by omega
 have hd0:decide (0≤fi)=false:=decide_eq_false h0
 have HR:Hid (R=ftL rows f (nxV rows m) (st.1++[m],mrgI (st.2++lookM m))):=by rw [Hid,hR0];exact dfsF_new _ _ f hm
 clear hR0 hfi hm
 have hl3:st.1.length≤2000:=hok.2.1
 have hf6:st.2.length≤6000:=by have:=hok.2.2;omega
 have q0:=empty8 w1 9 1 w.heap.size bw.size
 have ha:Below w1.heap.size w1 (w1.alloc (.cells #[] 9)):=by go_grown
 have hS1:=hS.below (bel_trans bw ha)
 have hsz:=bw.size
 go_wp2_with (at_builtin;refine wpList_append_own _ rfl _ _ 27 rfl w.heap.size 9 i0 (.string ⟨#[]⟩) 1 16 Tryz.underlying27 hi0 hz0 hz1 hz2 rfl (by decide) _ _ _ rfl q0 ⟨sb,so,none⟩ st.1.length sc ((st.1.map keyT).map Value.string) rfl (by simp) (strs_news hS1) (one_strs _) ?c3 ?c4 ?c5 ?_)
 case c3=>unfold maxLen;omega
 case c4=>omega
 case c5=>simp;omega
 intro v3 w3 q3 g3 _
 replace bw:=(bel_trans bw ha).grown g3 (bel_trans bw ha).size (fun q e=>(q0.lt q e).1)
 replace pP:=(pP.below ha).kept g3 (own_ne_blk9 q0 (pP.below ha) (by decide))
 replace pS:=(pS.below ha).kept g3 (own_ne_blk9 q0 (pS.below ha) (by decide))
 have q4:w3.ownsRow w.heap.size 9 1 v3 st.1.length ((st.1.map keyT).map Value.string):=by simpa using q3
 clear q3 g3 q0 ha hS1
 generalize hkm:keyT m=key at *
 have hsz3:=bw.size
 go_wp2_with (at_builtin;refine wpList_append_own _ rfl _ _ 27 rfl w.heap.size 9 i0 (.string ⟨#[]⟩) 1 16 Tryz.underlying27 hi0 hz0 hz1 hz2 rfl (by decide) _ _ _ rfl (q4.alloc _) ⟨w3.heap.size,0,none⟩ 1 1 [.string key] rfl rfl (cell_one_new _ _ _) (one_str6 _) ?c3 ?c4 ?c5 ?_)
 case c3=>unfold maxLen;omega
 case c4=>omega
 case c5=>simp;omega
 intro v4 w4 q5 g4 _
 have ha:Below w3.heap.size w3 (w3.alloc (.cells #[.string key] 9)):=by go_grown
 replace bw:=(bel_trans bw ha).grown g4 (bel_trans bw ha).size (fun q e=>(q4.lt q e).1)
 replace pP:=(pP.below ha).kept g4 (own_ne_blk9 (q4.alloc (.cells #[.string key] 9)) (pP.below ha) (by decide))
 replace pS:=(pS.below ha).kept g4 (own_ne_blk9 (q4.alloc (.cells #[.string key] 9)) (pS.below ha) (by decide))
 have q6:w4.ownsRow w.heap.size 9 1 v4 (st.1++[m]).length (((st.1++[m]).map keyT).map Value.string):=by
  subst hkm
  simpa using q5
 clear q5 g4 q4 ha hkm
 obtain ⟨gs,cs9,rfl⟩:=some8 q6 (by simp)
 have hS4:=strs_own q6
 clear q6
 have kLx:=kL w4 bw
 clear kL
 go_wp2_with (refine wpList_load_blk rfl 33 _ rfl (w.heap.size+1) rfl pS _ Tryz.underlying33 rfl (by kernel_rfl) ?_)
 refine kLx.mono ?_
 rintro e w5 ⟨⟨vl,rfl,ql⟩,hb⟩
 replace bw:=bel_trans bw hb
 replace pP:=pP.below hb
 replace pS:=pS.below hb
 replace hS4:=hS4.below hb
 obtain ⟨la9,lc9,rfl⟩:=slice8 ql
 have kM:=l08Merge_is fa st.2.length fc st.2 la9 (lookM m).length lc9 (lookM m) w5 (hF.below bw) (ints8 ql) (by omega) (by simp [lookM])
 clear hb kLx ql
 go_wp2_with fail
 refine kM.mono ?_
 rintro e w6 ⟨⟨vf,rfl,qf⟩,hb⟩
 replace bw:=bel_trans bw hb
 replace pP:=pP.below hb
 replace pS:=pS.below hb
 replace hS4:=hS4.below hb
 obtain ⟨fa9,fc9,rfl⟩:=slice8 qf
 have hF6:=ints8 qf
 have kEx:=kE w6 bw
 clear hb kM qf kE
 go_wp2_with (first | refine wpList_load_blk rfl 25 _ rfl w.heap.size rfl pP _ Tryz.underlying25 rfl (by kernel_rfl) ?_ | refine wpList_load_blk rfl 33 _ rfl (w.heap.size+1) rfl pS _ Tryz.underlying33 rfl (by kernel_rfl) ?_)
 refine kEx.mono ?_
 rintro e w7 ⟨⟨⟨ea,en,ec⟩,rfl,hE⟩,hb⟩
 have hLn:(enabM rows m 3).length=en:=by have:=hE.1;simpa using this
 have hn3:en≤3:=by rw [← hLn];exact enabM_len rows m 3
 have hEI:=hE.ints
 replace bw:=bel_trans bw hb
 replace pP:=pP.below hb
 replace pS:=pS.below hb
 replace hS4:=hS4.below hb
 replace hF6:=hF6.below hb
 clear hb kEx hE hS hF
 have st0:OnFt rows f m R w7 w7 (.slice (some ⟨gs,0,none⟩) (st.1.length+1) cs9) (.slice fa9 (mrgI (st.2++lookM m)).length fc9) 0 (st.1++[m],mrgI (st.2++lookM m)):=⟨by rw [HR.out];rfl,ftOk_put hs hok hl,⟨gs,0,cs9,by simp,hS4⟩,⟨_,_,rfl,hF6⟩,Below.refl _ _⟩
 clear hS4 hF6 HR hl3 hf6 hok hl hsz hsz3 h0 h0' hd0
 go_wp2_with fail
 go_loopw [2,3,12] (fun s2 s3 s12 wr=>∃ (i:Nat) (sti:St8 V4),s12=.int .i64 i∧i≤en∧OnFt rows f m R w7 wr s2 s3 i sti) (fun _ _ s12 _=>en - (Go.RowKit.intOf s12).toNat)
 case atStart=>exact ⟨0,_,rfl,Nat.zero_le _,st0⟩
 case round =>
  clear st0
  obtain ⟨i,sti,rfl,hin,hO⟩:=hrel
  obtain ⟨heq,hok,⟨xb,xo,xc,rfl,hS⟩,⟨ya,yc,rfl,hF⟩,bl⟩:=hO
  have hl2:=hok.2.1
  by_cases hlt:i<en
  ·have hlt3:(i:Int)<(en:Int):=by omega
   by_cases hfu:sti.1.length<2000
   ·have hfu9:(sti.1.length:Int)<2000:=by omega
    have hkj:(enabM rows m 3)[i]?=some ((enabM rows m 3).getD i 0):=by rw [List.getD,List.getElem?_eq_getElem (by omega)];rfl
    have hz:=enab_halt (List.mem_of_getElem? hkj)
    obtain ⟨h0k,h2k,hd,_⟩:=halt_can hz
    obtain ⟨k,hk⟩:∃ k:Nat,(enabM rows m 3).getD i 0=(k:Int):=⟨_,(Int.toNat_of_nonneg h0k).symm⟩
    obtain ⟨lb,lo,rfl,hc,hlb⟩:=ints_cellS (hEI.below bl) (show i<en from hlt)
    rw [hk] at hkj hz hd h0k h2k hc
    rw [Int.toNat_natCast] at hd
    have hk3:k<3:=by omega
    clear hk hlb
    have hx:=goM_shape hp hs hz
    have hlx:=left_step hp hs hz
    have hdr:(nxV rows m).drop i=(goM rows m (k:Int)).1::(nxV rows m).drop (i+1):=by
     have e9:(nxV rows m)[i]?=some (goM rows m (k:Int)).1:=by unfold nxV;rw [List.getElem?_map,hkj];rfl
     obtain ⟨h1,h2⟩:=List.getElem?_eq_some_iff.1 e9
     rw [List.drop_eq_getElem_cons h1,h2]
    rw [hdr] at heq
    replace heq:ftL rows f ((nxV rows m).drop (i+1)) (if sti.1.length<2000 then ftF rows f (goM rows m (k:Int)).1 sti else sti)=R:=heq
    rw [if_pos hfu] at heq
    have kI:=ih (goM rows m (k:Int)).1 sti hx (by omega) hok hfu
    have hok2:=ftF_ok hp f hx hok hfu
    have kP:=fun (W:World) (b:Below w.heap.size w W)=>l03Step_is (cap:=cap) rfl (hR.below b) (h.below b) hp hs hk3 hd
    rw [← goM_nat] at kP
    have ut:S4.val ((t0a,t0n,t0c),(t1a,t1n,t1c),(t2a,t2n,t2c),(t3a,t3n,t3c))=.agg #[.slice t0a t0n t0c,.slice t1a t1n t1c,.slice t2a t2n t2c,.slice t3a t3n t3c]:=rfl
    rw [ut] at kP
    have HEQ:Hid (ftL rows f ((nxV rows m).drop (i+1)) (ftF rows f (goM rows m (k:Int)).1 sti)=R):=heq
    clear heq hdr hkj hz hd hlx
    generalize goM rows m (k:Int)=zf at *
    obtain ⟨z,fl⟩:=zf
    simp only at kP hx kI HEQ hok2
    generalize ftF rows f z sti=st2 at *
    have pPr:=pP.below bl
    have pSr:=pS.below bl
    have bwr:=bel_trans bw bl
    have hi0:(0:Int)≤(i:Int):=by omega
    go_wp2_with fail
    have hb9:Below wr.heap.size wr wr.drew:=by go_grown
    refine wp_region_held_drew (S:=(fun w'=>w'.cell? ⟨w.heap.size,0,none⟩=some (.slice a9 3 cap)∧w'.cell? ⟨w.heap.size+1,0,none⟩=some (.slice t0a t0n t0c)∧w'.cell? ⟨w.heap.size+1,1,none⟩=some (.slice t1a t1n t1c)∧w'.cell? ⟨w.heap.size+1,2,none⟩=some (.slice t2a t2n t2c)∧w'.cell? ⟨w.heap.size+1,3,none⟩=some (.slice t3a t3n t3c)∧w'.cell? ⟨lb,lo+i,none⟩=some (.int .i64 (k:Int)))) (by kernel_rfl) ⟨by simpa using pPr.cell 0,by simpa using pSr.cell 0,by simpa using pSr.cell 1,by simpa using pSr.cell 2,by simpa using pSr.cell 3,hc⟩ (fun hS0=>?_)
    refine tkm 0 50 (.agg #[.slice a9 3 cap]) ?_
    refine tkm 1 51 (.agg #[.slice t0a t0n t0c,.slice t1a t1n t1c,.slice t2a t2n t2c,.slice t3a t3n t3c]) ?_
    refine tkm 2 52 (.slice (some ⟨lb,lo,none⟩) en ec) ?_
    refine tkm 3 53 (.int .i64 (i:Int)) ?_
    refine tkm 4 54 (.pointer (some ⟨lb,lo+i,none⟩)) ?_
    refine tkm 5 55 (.int .i64 (k:Int)) ?_
    replace bwr:=bel_trans bwr hb9
    replace bl:=bel_trans bl hb9
    replace hS:=hS.below hb9
    replace hF:=hF.below hb9
    replace pPr:=pPr.below hb9
    clear hb9 pSr
    generalize wr.drew=V at *
    refine wpAnyH_ready (rs:=[6,10]) (by kernel_rfl) (by simp) ?_
    refine AllReadyH.cons (o:=⟨some 56,_,_,_,_,_⟩) rfl (fun K hK=>?_) (AllReadyH.cons (o:=⟨some 13,_,_,_,_,_⟩) rfl (fun K hK=>?_) AllReadyH.nil)
    ·have kPx:=kP V bwr
     go_simp
     refine kPx.mono ?_
     rintro e V1 ⟨⟨⟨⟨z0a,z0n,z0c⟩,⟨z1a,z1n,z1c⟩,⟨z2a,z2n,z2c⟩,⟨z3a,z3n,z3c⟩⟩,rfl,hO2⟩,hb1⟩
     have uz:S4.val ((z0a,z0n,z0c),(z1a,z1n,z1c),(z2a,z2n,z2c),(z3a,z3n,z3c))=.agg #[.slice z0a z0n z0c,.slice z1a z1n z1c,.slice z2a z2n z2c,.slice z3a z3n z3c]:=rfl
     rw [uz]
     clear uz
     go_wp2_with fail
     refine hK.out _ _ ⟨cells_kept hb1 _ _ hS0.1,cells_kept hb1 _ _ hS0.2.1,cells_kept hb1 _ _ hS0.2.2.1,cells_kept hb1 _ _ hS0.2.2.2.1,cells_kept hb1 _ _ hS0.2.2.2.2.1,cells_kept hb1 _ _ hS0.2.2.2.2.2⟩ (fun hS5=>?_)
     clear hK kPx
     try simp only [Act.put,tka,tkb,tkc]
     refine tkm 7 49 (.tuple #[.agg #[.slice z0a z0n z0c,.slice z1a z1n z1c,.slice z2a z2n z2c,.slice z3a z3n z3c],.int .i64 fl]) ?_
     refine tkm 8 57 (.agg #[.slice z0a z0n z0c,.slice z1a z1n z1c,.slice z2a z2n z2c,.slice z3a z3n z3c]) ?_
     refine tkm 9 58 (.int .i64 fl) ?_
     refine tkr 10 13 (fun K hK=>?_)
     have hb2:Below V1.heap.size V1 (V1.alloc (.cells #[.slice none 0 0,.slice none 0 0,.slice none 0 0,.slice none 0 0] 33)):=by go_grown
     have pX:Blk (V1.alloc (.cells #[.slice none 0 0,.slice none 0 0,.slice none 0 0,.slice none 0 0] 33)) V1.heap.size 33 [.slice none 0 0,.slice none 0 0,.slice none 0 0,.slice none 0 0]:=blkAt _ _ _ rfl
     replace hO2:=hO2.below hb2
     have hbA:=bel_trans hb1 hb2
     have hYV:V.heap.size≤V1.heap.size:=hb1.size
     go_simp
     refine hK.out _ _ ⟨cells_kept hbA _ _ hS0.1,cells_kept hbA _ _ hS0.2.1,cells_kept hbA _ _ hS0.2.2.1,cells_kept hbA _ _ hS0.2.2.2.1,cells_kept hbA _ _ hS0.2.2.2.2.1,cells_kept hbA _ _ hS0.2.2.2.2.2⟩ (fun hS6=>?_)
     clear hK hb1 hb2
     generalize (V1.alloc (.cells #[.slice none 0 0,.slice none 0 0,.slice none 0 0,.slice none 0 0] 33))=V2 at *
     generalize V1.heap.size=Y at *
     try simp only [Act.put,tka,tkb,tkc]
     refine tkz 11 (fun K hK=>?_)
     refine step_store_blkD rfl 33 _ _ rfl Y [.slice z0a z0n z0c,.slice z1a z1n z1c,.slice z2a z2n z2c,.slice z3a z3n z3c] rfl rfl pX (by kernel_rfl) rfl rfl ?_
     intro V8 pX8 g8
     replace hO2:=hO2.kept9 g8 pX (by decide)
     have hbig:=hbA.grown g8 hbA.size (fun q hq=>by cases hq;exact hYV)
     refine hK.out _ _ ⟨cells_kept hbig _ _ hS0.1,cells_kept hbig _ _ hS0.2.1,cells_kept hbig _ _ hS0.2.2.1,cells_kept hbig _ _ hS0.2.2.2.1,cells_kept hbig _ _ hS0.2.2.2.2.1,cells_kept hbig _ _ hS0.2.2.2.2.2⟩ (fun hS7=>?_)
     clear hK pX g8 hbA hYV
     have pX:=pX8.out
     clear pX8
     try simp only [Act.put,tka,tkb,tkc]
     refine tkm 12 14 (.int .i64 fl) ?_
     refine wpAnyH_done (by kernel_rfl) ?_ _
     replace bwr:=bel_trans bwr hbig
     replace bl:=bel_trans bl hbig
     replace hS:=hS.below hbig
     replace hF:=hF.below hbig
     replace pPr:=pPr.below hbig
     clear hbig hS0 hS5 hS6 hS7 kP hc
     have fz:=(shape_fits9 hx).1
     have kIx:=kI V8 a9 cs ((z0a,z0n,z0c),(z1a,z1n,z1c),(z2a,z2n,z2c),(z3a,z3n,z3c)) xb xo xc ya yc (hR.below bwr) (hO2.mem fz) hS hF
     have uz:S4.val ((z0a,z0n,z0c),(z1a,z1n,z1c),(z2a,z2n,z2c),(z3a,z3n,z3c))=.agg #[.slice z0a z0n z0c,.slice z1a z1n z1c,.slice z2a z2n z2c,.slice z3a z3n z3c]:=rfl
     rw [uz] at kIx
     clear uz kI
     go_wp2_with (first | refine wpList_load_blk rfl 25 _ rfl w.heap.size rfl pPr _ Tryz.underlying25 rfl (by kernel_rfl) ?_ | refine wpList_load_blk rfl 33 _ rfl Y rfl pX _ Tryz.underlying33 rfl (by kernel_rfl) ?_)
     refine kIx.mono ?_
     rintro e Va ⟨⟨b1,o1,c1,fb,fc1,rfl,hS9,hF9⟩,hb⟩
     replace bl:=bel_trans bl hb
     clear hb kIx pX hO2 fz hx hS hF pPr bwr
     have st9:OnFt rows f m R w7 Va (.slice (some ⟨b1,o1,none⟩) st2.1.length c1) (.slice fb st2.2.length fc1) (i+1) st2:=⟨HEQ.out,hok2,⟨_,_,_,rfl,hS9⟩,⟨_,_,rfl,hF9⟩,bl⟩
     clear HEQ hok2 hS9 hF9 bl
     go_wp2
     go_roundw
     case rel=>exact ⟨i+1,st2,by go_num,by omega,st9⟩
     case measure=>simp [Go.RowKit.intOf];omega
    ·have hb1:Below V.heap.size V (V.alloc (.cells #[.slice none 0 0,.slice none 0 0,.slice none 0 0,.slice none 0 0] 33)):=by go_grown
     have pX:Blk (V.alloc (.cells #[.slice none 0 0,.slice none 0 0,.slice none 0 0,.slice none 0 0] 33)) V.heap.size 33 [.slice none 0 0,.slice none 0 0,.slice none 0 0,.slice none 0 0]:=blkAt _ _ _ rfl
     have hYV:V.heap.size≤V.heap.size:=Nat.le_refl _
     go_simp
     refine hK.out _ _ ⟨cells_kept hb1 _ _ hS0.1,cells_kept hb1 _ _ hS0.2.1,cells_kept hb1 _ _ hS0.2.2.1,cells_kept hb1 _ _ hS0.2.2.2.1,cells_kept hb1 _ _ hS0.2.2.2.2.1,cells_kept hb1 _ _ hS0.2.2.2.2.2⟩ (fun hS6=>?_)
     clear hK
     have kPx:=kP _ (bel_trans bwr hb1)
     generalize (V.alloc (.cells #[.slice none 0 0,.slice none 0 0,.slice none 0 0,.slice none 0 0] 33))=V2 at *
     obtain ⟨Y,hY⟩:∃ Y,Y=V.heap.size:=⟨_,rfl⟩
     rw [← hY] at pX hYV ⊢
     replace hYV:V.heap.size≤Y:=by omega
     clear hY
     try simp only [Act.put,tka,tkb,tkc]
     refine tkr 6 56 (fun K hK=>?_)
     go_simp
     refine kPx.mono ?_
     rintro e V3 ⟨⟨⟨⟨z0a,z0n,z0c⟩,⟨z1a,z1n,z1c⟩,⟨z2a,z2n,z2c⟩,⟨z3a,z3n,z3c⟩⟩,rfl,hO2⟩,hb2⟩
     have uz:S4.val ((z0a,z0n,z0c),(z1a,z1n,z1c),(z2a,z2n,z2c),(z3a,z3n,z3c))=.agg #[.slice z0a z0n z0c,.slice z1a z1n z1c,.slice z2a z2n z2c,.slice z3a z3n z3c]:=rfl
     rw [uz]
     clear uz
     go_wp2_with fail
     have hbA:=bel_trans hb1 hb2
     replace pX:=pX.below hb2
     refine hK.out _ _ ⟨cells_kept hbA _ _ hS0.1,cells_kept hbA _ _ hS0.2.1,cells_kept hbA _ _ hS0.2.2.1,cells_kept hbA _ _ hS0.2.2.2.1,cells_kept hbA _ _ hS0.2.2.2.2.1,cells_kept hbA _ _ hS0.2.2.2.2.2⟩ (fun hS5=>?_)
     clear hK kPx hb1 hb2
     try simp only [Act.put,tka,tkb,tkc]
     refine tkm 7 49 (.tuple #[.agg #[.slice z0a z0n z0c,.slice z1a z1n z1c,.slice z2a z2n z2c,.slice z3a z3n z3c],.int .i64 fl]) ?_
     refine tkm 8 57 (.agg #[.slice z0a z0n z0c,.slice z1a z1n z1c,.slice z2a z2n z2c,.slice z3a z3n z3c]) ?_
     refine tkm 9 58 (.int .i64 fl) ?_
     refine tkz 11 (fun K hK=>?_)
     refine step_store_blkD rfl 33 _ _ rfl Y [.slice z0a z0n z0c,.slice z1a z1n z1c,.slice z2a z2n z2c,.slice z3a z3n z3c] rfl rfl pX (by kernel_rfl) rfl rfl ?_
     intro V8 pX8 g8
     replace hO2:=hO2.kept9 g8 pX (by decide)
     have hbig:=hbA.grown g8 hbA.size (fun q hq=>by cases hq;exact hYV)
     refine hK.out _ _ ⟨cells_kept hbig _ _ hS0.1,cells_kept hbig _ _ hS0.2.1,cells_kept hbig _ _ hS0.2.2.1,cells_kept hbig _ _ hS0.2.2.2.1,cells_kept hbig _ _ hS0.2.2.2.2.1,cells_kept hbig _ _ hS0.2.2.2.2.2⟩ (fun hS7=>?_)
     clear hK pX g8 hbA hYV
     have pX:=pX8.out
     clear pX8
     try simp only [Act.put,tka,tkb,tkc]
     refine tkm 12 14 (.int .i64 fl) ?_
     refine wpAnyH_done (by kernel_rfl) ?_ _
     replace bwr:=bel_trans bwr hbig
     replace bl:=bel_trans bl hbig
     replace hS:=hS.below hbig
     replace hF:=hF.below hbig
     replace pPr:=pPr.below hbig
     clear hbig hS0 hS5 hS6 hS7 kP hc
     have fz:=(shape_fits9 hx).1
     have kIx:=kI V8 a9 cs ((z0a,z0n,z0c),(z1a,z1n,z1c),(z2a,z2n,z2c),(z3a,z3n,z3c)) xb xo xc ya yc (hR.below bwr) (hO2.mem fz) hS hF
     have uz:S4.val ((z0a,z0n,z0c),(z1a,z1n,z1c),(z2a,z2n,z2c),(z3a,z3n,z3c))=.agg #[.slice z0a z0n z0c,.slice z1a z1n z1c,.slice z2a z2n z2c,.slice z3a z3n z3c]:=rfl
     rw [uz] at kIx
     clear uz kI
     go_wp2_with (first | refine wpList_load_blk rfl 25 _ rfl w.heap.size rfl pPr _ Tryz.underlying25 rfl (by kernel_rfl) ?_ | refine wpList_load_blk rfl 33 _ rfl Y rfl pX _ Tryz.underlying33 rfl (by kernel_rfl) ?_)
     refine kIx.mono ?_
     rintro e Va ⟨⟨b1,o1,c1,fb,fc1,rfl,hS9,hF9⟩,hb⟩
     replace bl:=bel_trans bl hb
     clear hb kIx pX hO2 fz hx hS hF pPr bwr
     have st9:OnFt rows f m R w7 Va (.slice (some ⟨b1,o1,none⟩) st2.1.length c1) (.slice fb st2.2.length fc1) (i+1) st2:=⟨HEQ.out,hok2,⟨_,_,_,rfl,hS9⟩,⟨_,_,rfl,hF9⟩,bl⟩
     clear HEQ hok2 hS9 hF9 bl
     go_wp2
     go_roundw
     case rel=>exact ⟨i+1,st2,by go_num,by omega,st9⟩
     case measure=>simp [Go.RowKit.intOf];omega
   ·have hfu9:¬ (sti.1.length:Int)<2000:=by omega
    have hfu8:decide ((sti.1.length:Int)<2000)=false:=decide_eq_false hfu9
    have HF9:Hid (R=sti):=by rw [Hid,← heq];exact dfsL_full _ _ f _ hfu
    clear heq hfu
    clear pP pS hEI
    go_wp2
    go_ret2
    exact ⟨by rw [HF9.out];exact ⟨_,_,_,_,_,rfl,hS,hF⟩,bel_trans bw bl⟩
  ·have hge:¬ (i:Int)<(en:Int):=by omega
   have hge8:decide ((i:Int)<(en:Int))=false:=decide_eq_false hge
   have HF9:Hid (R=sti):=by
    have e9:(nxV rows m).drop i=[]:=List.drop_of_length_le (by unfold nxV;rw [List.length_map];omega)
    rw [Hid,← heq,e9]
    rfl
   clear heq
   clear pP pS hEI
   go_wp2
   go_ret2
   exact ⟨by rw [HF9.out];exact ⟨_,_,_,_,_,rfl,hS,hF⟩,bel_trans bw bl⟩
theorem foot_all {rows:List (List I3)} {cap:Nat} (hp:progOk rows=true):∀ f,FtC rows cap f
 | 0=>fun m st hs hf=>by omega
 | f+1=>foot_step hp (foot_all hp f)
end Go.Proofs.YtfpopbbmnbehiaaGreatDoor

namespace Go.Proofs.YtfpopbbmnbehiaaGreatDoor
set_option maxRecDepth 100000
set_option maxHeartbeats 16000000
open Go.RowKit
set_option linter.unusedVariables false

def footC (rows:List (List I3)) (m:V4):Int:=if (progOk rows && shapeOk m)=true then (if (fullM rows m).length<2000 then 0 else 15) else 1
def footA (rows:List (List I3)) (m:V4):List Int:=if (progOk rows && shapeOk m)=true∧(fullM rows m).length<2000 then mrgI ((fullM rows m).flatMap fun r=>lookM r.1) else []
theorem footC_bad {rows:List (List I3)} {m:V4} (h:(progOk rows && shapeOk m)=false):footC rows m=1:=if_neg (by rw [h];simp)
theorem footA_bad {rows:List (List I3)} {m:V4} (h:(progOk rows && shapeOk m)=false):footA rows m=[]:=if_neg (by rw [h];simp)
theorem footC_ok {rows:List (List I3)} {m:V4} (h:(progOk rows && shapeOk m)=true) (h2:(fullM rows m).length<2000):footC rows m=0:=by unfold footC;rw [if_pos h,if_pos h2]
theorem footA_ok {rows:List (List I3)} {m:V4} (h:(progOk rows && shapeOk m)=true) (h2:(fullM rows m).length<2000):footA rows m=mrgI ((fullM rows m).flatMap fun r=>lookM r.1):=if_pos ⟨h,h2⟩
theorem footC_much {rows:List (List I3)} {m:V4} (h:(progOk rows && shapeOk m)=true) (h2:¬ (fullM rows m).length<2000):footC rows m=15:=by unfold footC;rw [if_pos h,if_neg h2]
theorem footA_much {rows:List (List I3)} {m:V4} (h:(progOk rows && shapeOk m)=true) (h2:¬ (fullM rows m).length<2000):footA rows m=[]:=if_neg (fun e=>h2 e.2)
theorem flat3_len (L:List (Rec6 V4)):(L.flatMap fun r=>lookM r.1).length=3*L.length:=by
 induction L with
 | nil=>rfl
 | cons x L ih=>rw [List.flatMap_cons,List.length_append,ih,List.length_cons];simp only [lookM,List.length_cons,List.length_nil];omega
theorem footA_len (rows:List (List I3)) (m:V4):(footA rows m).length≤1048576:=by
 unfold footA
 split
 ·rename_i h
  have h1:=mrgI_len ((fullM rows m).flatMap fun r=>lookM r.1)
  rw [flat3_len] at h1
  omega
 ·simp
theorem fullM_shaped {rows:List (List I3)} (hp:progOk rows=true) {m:V4} (hs:shapeOk m=true):Shaped (fullM rows m):=srch_shaped hp _ _ _ (fun r hr=>by simp at hr;subst hr;exact hs)
theorem fullM_head (rows:List (List I3)) (m:V4):(fullM rows m)[0]?=some (m,0,0):=by
 have h:=srch_pre (nxM rows) 2000 0 [(m,0,0)]
 obtain ⟨t,ht⟩:=h
 unfold fullM
 rw [← ht]
 rfl
theorem fullM_nodup (rows:List (List I3)) (m:V4):((fullM rows m).map (·.1)).Nodup:=srch_nodup _ _ _ (by simp)
theorem fullM_came (rows:List (List I3)) (m:V4):Came (nxM rows) (fullM rows m):=srch_came _ _ _ (fun j r hj hr=>by
 have:=(List.getElem?_eq_some_iff.1 hr).1
 simp at this
 omega)
theorem fullM_closed {rows:List (List I3)} {m:V4} (h:(fullM rows m).length≤2000):∀ r ∈ fullM rows m,∀ t ∈ nxM rows r.1,t.2 ∈ (fullM rows m).map (·.1):=
 srch_closed 2000 0 [(m,0,0)] (fun j r hj=>by omega) (by simp) (by rw [Nat.zero_add];exact h)
theorem fullM_ind {rows:List (List I3)} {m:V4} (C:V4→Prop) (h0:C m) (hC:∀ x,C x→∀ t ∈ nxM rows x,C t.2):∀ r ∈ fullM rows m,C r.1:=by
 have hh:=fullM_head rows m
 have hc:=fullM_came rows m
 have key:∀ (n j:Nat) (r:Rec6 V4),j≤n→(fullM rows m)[j]?=some r→C r.1:=by
  intro n
  induction n with
  | zero =>
   intro j r hj hr
   have:j=0:=by omega
   subst this
   rw [hh] at hr
   cases hr
   exact h0
  | succ n ih =>
   intro j r hj hr
   rcases Nat.eq_zero_or_pos j with rfl | hp
   ·rw [hh] at hr
    cases hr
    exact h0
   ·obtain ⟨h1,q,h2,h3⟩:=hc j r hp hr
    exact hC q.1 (ih _ q (by omega) h2) _ h3
 intro r hr
 obtain ⟨j,hj,e⟩:=List.getElem_of_mem hr
 exact key j j r (Nat.le_refl _) (by rw [List.getElem?_eq_getElem hj,e])

set_option linter.unusedSimpArgs false

theorem info_ints8:(Tryz.prog.info? 31).map (fun i=>(i.zero,i.size,i.bytes))=some (some (.slice none 0 0),1,24):=by kernel_rfl
theorem rcC_one8 (cs:Sl × Sl × Sl) (r:Rec6 V4) {mv:Value} (h:mv.oneCell'=true):(rcC cs r mv).all (·.oneCell')=true:=by
 unfold rcC
 rw [List.all_cons,List.all_append,mach_one]
 simp only [List.all_cons,List.all_nil,h,Bool.and_true,Bool.and_self]
 rfl
theorem SpcD.mvone8 {w:World} {B nb:Nat} {vs:Value} {cs:Sl × Sl × Sl} {M:V4→List I4} {L:List (Rec6 V4 × Value)} (h:SpcD w B nb vs cs M L L.length) {j:Nat} {r:Rec6 V4} {mv:Value} (hr:L[j]?=some (r,mv)):mv.oneCell'=true:=by
 obtain ⟨a,k,c,rfl⟩:=own_slice6 (h.mvs j r mv (List.getElem?_eq_some_iff.1 hr).1 hr)
 rfl
def AllO (w:World) (B:Nat) (vs:List Value) (xss:List (List Int)):Prop:=vs.length=xss.length∧∀ t,t<xss.length→w.ownsRow B 3 1 (vs.getD t undef) (xss.getD t []).length ((xss.getD t []).map (Value.int .i64))
theorem AllO.below {w w':World} {B:Nat} {vs:List Value} {xss:List (List Int)} (h:AllO w B vs xss) (hb:Below w.heap.size w w'):AllO w' B vs xss:=⟨h.1,fun t ht=>owns8 (h.2 t ht) hb⟩
theorem AllO.nil (w:World) (B:Nat):AllO w B [] []:=⟨rfl,fun t ht=>by simp at ht⟩
theorem AllO.kept {w w':World} {B B' n:Nat} {v:Value} {xs vs:List Value} {xss:List (List Int)} (h:AllO w B vs xss) (ho:w.ownsRow B' 31 1 v n xs) (hg:w.grownBy w' v.ownBlock):AllO w' B vs xss:=
 ⟨h.1,fun t ht=>(h.2 t ht).kept hg (Ap3.types (h.2 t ht) ho (by decide)).or⟩
theorem AllO.snoc {w:World} {B:Nat} {vs:List Value} {xss:List (List Int)} {v:Value} {xs:List Int} (h:AllO w B vs xss) (hv:w.ownsRow B 3 1 v xs.length (xs.map (Value.int .i64))):AllO w B (vs++[v]) (xss++[xs]):=by
 refine ⟨by simp [h.1],fun t ht=>?_⟩
 by_cases h9:t<xss.length
 ·have e1:(vs++[v]).getD t undef=vs.getD t undef:=by simp [List.getD,List.getElem?_append_left (show t<vs.length by have:=h.1;omega)]
  have e2:(xss++[xs]).getD t []=xss.getD t []:=by simp [List.getD,List.getElem?_append_left h9]
  rw [e1,e2]
  exact h.2 t h9
 ·have e9:t=xss.length:=by simp at ht;omega
  subst e9
  have e1:(vs++[v]).getD xss.length undef=v:=by rw [← h.1];simp [List.getD]
  have e2:(xss++[xs]).getD xss.length []=xs:=by simp [List.getD]
  rw [e1,e2]
  exact hv
theorem AllO.allL {w:World} {B:Nat} {vs:List Value} {xss:List (List Int)} (h:AllO w B vs xss):AllL w vs xss:=⟨h.1,fun t ht=>by
 have q:=h.2 t ht
 obtain ⟨a,c,e⟩:=slice8 q
 rw [e] at q ⊢
 exact ⟨a,_,c,rfl,ints8 q⟩⟩
theorem range_below {w w':World} {g o:Nat} {cs:List Value} (h:w.rangeAt g o cs) (hb:Below w.heap.size w w'):w'.rangeAt g o cs:=fun j v hj=>cell8 hb (h j v hj)

theorem foot_is {w:World} {B X nb:Nat} {vs:Value} {cs:Sl × Sl × Sl} {M:V4→List I4} {L:List (Rec6 V4 × Value)} (hS:SpcD w B nb vs cs M L L.length) (hX:Blk w X 84 [vs,.map (some nb)]) (hsh:Shaped (L.map (·.1))) (hl:L.length≤2000) :
  Calls Tryz.prog 83 #[.pointer (some ⟨X,0,none⟩)] w fun e w'=>RowGot e w' w.heap.size (mrgI ((L.map (·.1)).flatMap fun r=>lookM r.1))∧Below w.heap.size w w':=by
 obtain ⟨i0,hi0,hz0,hz1,hz2⟩:=info_parts info_ints8
 obtain ⟨va,vn,vc,rfl⟩:=own_slice6 hS.row
 obtain rfl:vn=L.length:=by
  rcases hS.row.2 with ⟨h1,h2⟩ | ⟨gq,cq,cur,h1,_⟩
  ·cases h1;exact h2.symm
  ·cases h1;rfl
 have cX0:w.cell? ⟨X,0,none⟩=some (.slice va L.length vc):=by simpa using hX.cell 0
 have hFl:((L.map fun x=>lookM x.1.1).flatten)=(L.map (·.1)).flatMap fun r=>lookM r.1:=by simp [List.flatMap,Function.comp_def]
 have hFn:(L.map fun x=>lookM x.1.1).flatten.length≤6000:=by
  have e:(L.map fun x=>lookM x.1.1).flatten.length=3*L.length:=by
   clear hS hX hsh hl cX0 hFl
   induction L with
   | nil=>rfl
   | cons x L ih=>simp only [List.map_cons,List.flatten_cons,List.length_append,ih,List.length_cons];simp only [lookM,List.length_cons,List.length_nil];omega
  omega
 have hFw:∀ x ∈ (L.map fun x=>lookM x.1.1).flatten,(Lit.int .i64 x).wf=true:=fun x hx=>by
  rw [List.mem_flatten] at hx
  obtain ⟨l,hl9,hx⟩:=hx
  obtain ⟨y,hy,rfl⟩:=List.mem_map.1 hl9
  exact itOk_wf (look_ok (hsh y.1 (List.mem_map.2 ⟨y,hy,rfl⟩)) x hx)
 rw [← hFl]
 clear hFl
 go_enter Tryz.func83,Tryz.ntmps83
 go_wp2_with fail
 go_loopw [3,11] (fun s3 s11 wr=>∃ (j:Nat) (us:List Value),s11=.int .i64 j∧j≤L.length∧wr.ownsRow w.heap.size 31 1 s3 j us∧AllO wr w.heap.size us ((L.take j).map fun x=>lookM x.1.1)∧Below w.heap.size w wr) (fun _ s11 _=>L.length - (Go.RowKit.intOf s11).toNat)
 case atStart=>exact ⟨0,[],rfl,Nat.zero_le _,World.ownsRow_nil _ _ _ _,AllO.nil _ _,Below.refl _ _⟩
 case round =>
  obtain ⟨j,us,rfl,hjl,q,hA,bw⟩:=hrel
  by_cases hlt:j<L.length
  ·obtain ⟨r,mv,hr⟩:∃ r mv,L[j]?=some (r,mv):=⟨L[j].1,L[j].2,by rw [List.getElem?_eq_getElem hlt]⟩
   obtain ⟨g,c,e9,hg,hrg⟩:=hS.at9 hr
   have hmv:=hS.mvone8 hr
   cases e9
   replace hrg:=range_below hrg bw
   have hs:=hsh r (List.mem_map.2 ⟨_,List.mem_of_getElem? hr,rfl⟩)
   have hlt3:(j:Int)<(L.length:Int):=by omega
   have hj0:(0:Int)≤(j:Int):=by omega
   have HT:Hid (((L.take (j+1)).map fun x=>lookM x.1.1)=((L.take j).map fun x=>lookM x.1.1)++[lookM r.1]):=by
    rw [Hid,List.take_add_one,hr]
    simp
   clear hr
   have pN:=Blk.new wr 98 [.string ⟨#[]⟩,.slice none 0 0,.int .i64 0,.int .i64 0,.int .i64 0,.slice none 0 0,.int .i64 0,.int .i64 0,.int .i64 0,.slice none 0 0,.int .i64 0,.int .i64 0,.int .i64 0,.int .i64 0,.int .i64 0,.int .i64 0,.int .i64 0,.int .i64 0,.int .i64 0,.int .i64 0,.int .i64 0,.slice none 0 0]
   have hbN:Below wr.heap.size wr (wr.alloc (.cells #[.string ⟨#[]⟩,.slice none 0 0,.int .i64 0,.int .i64 0,.int .i64 0,.slice none 0 0,.int .i64 0,.int .i64 0,.int .i64 0,.slice none 0 0,.int .i64 0,.int .i64 0,.int .i64 0,.int .i64 0,.int .i64 0,.int .i64 0,.int .i64 0,.int .i64 0,.int .i64 0,.int .i64 0,.int .i64 0,.slice none 0 0] 98)):=by go_grown
   go_wp2_with (first | refine wpList_load_mid rfl 98 _ rfl g (j*22) rfl (rcC cs r mv) _ hrg Tryz.underlying98 rfl (by kernel_rfl) ?_ | refine wpList_store_blk rfl 98 _ _ rfl wr.heap.size (rcC cs r mv) rfl rfl pN (by kernel_rfl) rfl (rcC_one8 cs r hmv) ?_)
   intro w3 p3 g3
   have pE:=p3.out
   have b3:Below wr.heap.size wr w3:=hbN.grown g3 hbN.size (fun k e=>by cases e;exact Nat.le_refl _)
   have kL:=looks_is wr.heap.size 1 cs r.1 w3 (by have:=range_mach (blk_range pE);simpa using this) hs
   replace q:=owns8 q b3
   replace hA:=hA.below b3
   replace bw:=bel8 bw b3
   clear p3 g3 hbN pN b3 hrg pE
   generalize wr.heap.size=E at *
   go_wp2_with fail
   refine kL.mono ?_
   rintro e w4 ⟨⟨vl,rfl,ql⟩,hb⟩
   have hsz:=bw.size
   replace q:=owns8 q hb
   replace hA:=hA.below hb
   replace bw:=bel8 bw hb
   replace ql:=lower8 ql hsz
   clear hb kL hsz
   obtain ⟨la,lc,rfl⟩:=slice8 ql
   have hsz:=bw.size
   generalize hlk:lookM r.1=lk at *
   go_wp2_with (at_builtin;refine wpList_append_own _ rfl _ _ 179 rfl w.heap.size 31 i0 (.slice none 0 0) 1 24 Tryz.underlying179 hi0 hz0 hz1 hz2 rfl (by decide) _ _ _ rfl (q.alloc _) ⟨w4.heap.size,0,none⟩ 1 1 [.slice la lk.length lc] rfl rfl (cell_one_new _ _ _) (by simp [Value.oneCell']) ?c3 ?c4 ?c5 ?_)
   case c3=>unfold maxLen;omega
   case c4=>omega
   case c5=>simp;omega
   intro v5 w5 q5 g5 _
   have ha:Below w4.heap.size w4 (w4.alloc (.cells #[.slice la lk.length lc] 31)):=by go_grown
   have hA5:=((hA.below ha).snoc (owns8 ql ha)).kept (q.alloc _) g5
   have bw5:=(bel8 bw ha).grown g5 (bel8 bw ha).size (fun k hk=>(q.lt k hk).1)
   clear ha g5 q hA bw ql
   go_wp2
   go_roundw
   case rel=>exact ⟨j+1,_,by go_num,by omega,q5,by rw [HT.out];exact hA5,bw5⟩
   case measure=>simp [Go.RowKit.intOf];omega
  ·have hlt3:¬ (j:Int)<(L.length:Int):=by omega
   obtain rfl:j=L.length:=by omega
   rw [List.take_of_length_le (Nat.le_refl _)] at hA
   obtain ⟨ra,rc,rfl⟩:=slice8 q
   have kM:=merged_is ra L.length rc _ wr (RowsI.own q (by simp) hA.allL) (by omega) (by omega) hFw
   have hsz:=bw.size
   clear q hA
   go_wp2_with fail
   refine kM.mono ?_
   rintro e w6 ⟨⟨v6,rfl,q6⟩,hb⟩
   replace q6:=lower8 q6 hsz
   replace bw:=bel8 bw hb
   clear hb kM
   go_wp2
   go_ret
   exact ⟨⟨_,rfl,q6⟩,bw⟩

theorem nil_row8 (w:World) (B:Nat):OwnI w B (none,0,0) []:=World.ownsRow_nil _ _ _ _
theorem implFootOf_is (a:Option Addr) (len cap:Nat) (rows:List (List I3)) (s:S4) (m:V4) (w:World) (hC:Codes w a len cap rows) (h:Vmem w s m) (hV:VmShape w) :
  Calls Tryz.prog 31 #[.agg #[.slice a len cap],s.val] w fun e w'=>(∃ t:Sl,e=.returned (.tuple #[.slice t.1 t.2.1 t.2.2,.int .i64 (footC rows m)])∧OwnI w' w.heap.size t (footA rows m))∧Below w.heap.size w w':=by
 have kB:=fun (W:World) (hb:Below w.heap.size w W)=>spaceOf_bad a len cap rows s m W (hC.below hb) (h.below hb) (hV.below hb)
 have kS:=fun (W:World) (hb:Below w.heap.size w W)=>spaceOf_isM a len cap rows s m W (hC.below hb) (h.below hb) (hV.below hb)
 obtain ⟨⟨a0,n0,c0⟩,⟨a1,n1,c1⟩,⟨a2,n2,c2⟩,⟨a3,n3,c3⟩⟩:=s
 have uA:S4.val ((a0,n0,c0),(a1,n1,c1),(a2,n2,c2),(a3,n3,c3))=.agg #[.slice a0 n0 c0,.slice a1 n1 c1,.slice a2 n2 c2,.slice a3 n3 c3]:=rfl
 rw [uA] at kB kS ⊢
 clear uA h hC hV
 obtain ⟨cd,hcd⟩:∃ cd,cd=footC rows m:=⟨_,rfl⟩
 obtain ⟨zs,hzs⟩:∃ zs,zs=footA rows m:=⟨_,rfl⟩
 rw [← hcd,← hzs]
 have bw:Below w.heap.size w ((w.alloc (.cells #[.slice a len cap] 25)).alloc (.cells #[.slice a0 n0 c0,.slice a1 n1 c1,.slice a2 n2 c2,.slice a3 n3 c3] 33)):=by go_grown
 have pP:Blk ((w.alloc (.cells #[.slice a len cap] 25)).alloc (.cells #[.slice a0 n0 c0,.slice a1 n1 c1,.slice a2 n2 c2,.slice a3 n3 c3] 33)) w.heap.size 25 [.slice a len cap]:=blkOld _ (blkAt _ _ _ rfl)
 have pS:Blk ((w.alloc (.cells #[.slice a len cap] 25)).alloc (.cells #[.slice a0 n0 c0,.slice a1 n1 c1,.slice a2 n2 c2,.slice a3 n3 c3] 33)) (w.heap.size+1) 33 [.slice a0 n0 c0,.slice a1 n1 c1,.slice a2 n2 c2,.slice a3 n3 c3]:=blkAt _ _ _ (by simp)
 go_enter Tryz.func31,Tryz.ntmps31
 go_wp2_with fail
 generalize ((w.alloc (.cells #[.slice a len cap] 25)).alloc (.cells #[.slice a0 n0 c0,.slice a1 n1 c1,.slice a2 n2 c2,.slice a3 n3 c3] 33))=U at *
 cases hok:(progOk rows && shapeOk m)
 ·have kx:=kB U bw hok
  have HZ:Hid (zs=[]∧cd=1):=⟨by rw [hzs];exact footA_bad hok,by rw [hcd];exact footC_bad hok⟩
  clear hcd hzs kB kS hok
  go_wp2_with (first | refine wpList_load_blk rfl 25 _ rfl w.heap.size rfl pP _ Tryz.underlying25 rfl (by kernel_rfl) ?_ | refine wpList_load_blk rfl 33 _ rfl (w.heap.size+1) rfl pS _ Tryz.underlying33 rfl (by kernel_rfl) ?_)
  refine kx.mono ?_
  rintro e w1 ⟨rfl,hb⟩
  replace bw:=bel8 bw hb
  clear hb kx pP pS
  have pN:=Blk.new w1 84 [.slice none 0 0,.map none]
  have hbN:Below w1.heap.size w1 (w1.alloc (.cells #[.slice none 0 0,.map none] 84)):=by go_grown
  go_wp2_with (refine wpList_store_blk rfl 84 _ _ rfl w1.heap.size [.slice none 0 0,.map none] rfl rfl pN (by kernel_rfl) rfl rfl ?_)
  intro w2 p2 g2
  have b2:Below w1.heap.size w1 w2:=hbN.grown g2 hbN.size (fun k e=>by cases e;exact Nat.le_refl _)
  replace bw:=bel8 bw b2
  clear p2 g2 hbN pN b2
  go_wp2
  go_ret2
  exact ⟨by rw [HZ.out.1,HZ.out.2];exact ⟨(none,0,0),rfl,nil_row8 _ _⟩,bw⟩
 ·obtain ⟨hp,hs⟩:=both_ok hok
  have kx:=kS U bw hp hs
  by_cases hf:(fullM rows m).length≤2000
  ·have hsz:=bw.size
   clear kB kS
   go_wp2_with (first | refine wpList_load_blk rfl 25 _ rfl w.heap.size rfl pP _ Tryz.underlying25 rfl (by kernel_rfl) ?_ | refine wpList_load_blk rfl 33 _ rfl (w.heap.size+1) rfl pS _ Tryz.underlying33 rfl (by kernel_rfl) ?_)
   refine kx.mono ?_
   intro e w1 hg
   rw [if_pos hf] at hg
   obtain ⟨vs,nb,cs,L,rfl,sp,hLF,hR',hb⟩:=hg
   obtain ⟨va,vn,vc,rfl⟩:=own_slice6 sp.row
   obtain rfl:vn=L.length:=by
    rcases sp.row.2 with ⟨h1,h2⟩ | ⟨gq,cq,cur,h1,_⟩
    ·cases h1;exact h2.symm
    ·cases h1;rfl
   have hlen:(fullM rows m).length=L.length:=by rw [← hLF];simp
   replace bw:=bel8 bw hb
   clear hb kx pP pS hR'
   have pN:=Blk.new w1 84 [.slice none 0 0,.map none]
   have hbN:Below w1.heap.size w1 (w1.alloc (.cells #[.slice none 0 0,.map none] 84)):=by go_grown
   go_wp2_with (refine wpList_store_blk rfl 84 _ _ rfl w1.heap.size [.slice va L.length vc,.map (some nb)] rfl rfl pN (by kernel_rfl) rfl rfl ?_)
   intro w2 p2 g2
   have pX:=p2.out
   have b2:Below w1.heap.size w1 w2:=hbN.grown g2 hbN.size (fun k e=>by cases e;exact Nat.le_refl _)
   replace bw:=bel8 bw b2
   replace sp:=sp.below b2
   clear p2 g2 hbN pN b2
   generalize w1.heap.size=X at *
   have cX0:w2.cell? ⟨X,0,none⟩=some (.slice va L.length vc):=by simpa using pX.cell 0
   by_cases h2:L.length<2000
   ·have h29:(L.length:Int)<2000:=by omega
    have HZ:Hid (zs=mrgI ((L.map (·.1)).flatMap fun r=>lookM r.1)∧cd=0):=⟨by rw [hzs,hLF];exact footA_ok hok (by omega),by rw [hcd];exact footC_ok hok (by omega)⟩
    have kF:=foot_is sp pX (by rw [hLF];exact fullM_shaped hp hs) (by omega)
    have hsz2:=bw.size
    clear hcd hzs hok hf hLF
    go_wp2_with fail
    refine kF.mono ?_
    rintro e w3 ⟨⟨v3,rfl,q3⟩,hb⟩
    replace q3:=lower8 q3 hsz2
    obtain ⟨ta,tc,rfl⟩:=slice8 q3
    replace bw:=bel8 bw hb
    clear hb kF
    go_wp2
    go_ret2
    refine ⟨?_,bw⟩
    rw [HZ.out.1,HZ.out.2]
    exact ⟨(ta,_,tc),rfl,q3⟩
   ·have h29:¬ (L.length:Int)<2000:=by omega
    have h28:(2000:Int)≤(L.length:Int):=by omega
    have HZ:Hid (zs=[]∧cd=15):=⟨by rw [hzs];exact footA_much hok (by omega),by rw [hcd];exact footC_much hok (by omega)⟩
    clear hcd hzs hok hf hLF hlen sp
    go_wp2
    go_ret2
    exact ⟨by rw [HZ.out.1,HZ.out.2];first | exact ⟨(none,0,0),rfl,nil_row8 _ _⟩ | exact ⟨none,0,0,rfl,nil_row8 _ _⟩,bw⟩
  ·have HZ:Hid (zs=[]∧cd=15):=⟨by rw [hzs];exact footA_much hok (by omega),by rw [hcd];exact footC_much hok (by omega)⟩
   clear hcd hzs kB kS hok
   go_wp2_with (first | refine wpList_load_blk rfl 25 _ rfl w.heap.size rfl pP _ Tryz.underlying25 rfl (by kernel_rfl) ?_ | refine wpList_load_blk rfl 33 _ rfl (w.heap.size+1) rfl pS _ Tryz.underlying33 rfl (by kernel_rfl) ?_)
   refine kx.mono ?_
   intro e w1 hg
   rw [if_neg hf] at hg
   obtain ⟨rfl,hb⟩:=hg
   replace bw:=bel8 bw hb
   clear hb kx pP pS
   have pN:=Blk.new w1 84 [.slice none 0 0,.map none]
   have hbN:Below w1.heap.size w1 (w1.alloc (.cells #[.slice none 0 0,.map none] 84)):=by go_grown
   go_wp2_with (refine wpList_store_blk rfl 84 _ _ rfl w1.heap.size [.slice none 0 0,.map none] rfl rfl pN (by kernel_rfl) rfl rfl ?_)
   intro w2 p2 g2
   have b2:Below w1.heap.size w1 w2:=hbN.grown g2 hbN.size (fun k e=>by cases e;exact Nat.le_refl _)
   replace bw:=bel8 bw b2
   clear p2 g2 hbN pN b2
   go_wp2
   go_ret2
   exact ⟨by rw [HZ.out.1,HZ.out.2];exact ⟨(none,0,0),rfl,nil_row8 _ _⟩,bw⟩
end Go.Proofs.YtfpopbbmnbehiaaGreatDoor

namespace Go.Proofs.YtfpopbbmnbehiaaGreatDoor
set_option maxRecDepth 100000
set_option maxHeartbeats 16000000
set_option linter.unusedVariables false

theorem left_18 {rows:List (List I3)} (hp:progOk rows=true) (m:V4):leftN rows m≤18:=by
 obtain ⟨h1,h2⟩:=progOk_parts hp
 have h:∀ k,(codeM rows k).length≤6:=fun k=>by
  unfold codeM
  rcases Nat.lt_or_ge k rows.length with hk | hk
  ·simp only [List.getD,List.getElem?_eq_getElem hk,Option.getD_some]
   exact (h2 _ (List.getElem_mem hk)).1
  ·simp [List.getD,List.getElem?_eq_none hk]
 unfold leftN remM
 have a:=h 0;have b:=h 1;have c:=h 2
 omega

open Go.RowKit
set_option linter.unusedSimpArgs false

theorem fnExactFootOf_of (a0:Option Addr) (n0 c0:Nat) (r0:List (List I3)) (s1:S4) (m1:V4) (z:List Int) (hlz:z.length≤1048576) (e0:Int) (w:World) (h0:Codes w a0 n0 c0 r0) (h1:Vmem w s1 m1) (hG0:VmShape w)
  (kS:∀ (a0:Option Addr) (n0 c0:Nat) (s1:S4) (w:World),Codes w a0 n0 c0 r0→Vmem w s1 m1→Calls Tryz.prog 32 #[.agg #[.slice a0 n0 c0],s1.val] w fun e w'=>(∃ (t:Sl),e=.returned (.tuple #[.slice t.1 t.2.1 t.2.2,.int .i64 e0])∧Ints .i64 w' t.1 t.2.1 t.2.2 z)∧Below w.heap.size w w')
  (kI:∀ (a0:Option Addr) (n0 c0:Nat) (s1:S4) (w:World),Codes w a0 n0 c0 r0→Vmem w s1 m1→VmShape w→Calls Tryz.prog 31 #[.agg #[.slice a0 n0 c0],s1.val] w fun e w'=>(∃ (t:Sl),e=.returned (.tuple #[.slice t.1 t.2.1 t.2.2,.int .i64 e0])∧OwnI w' w.heap.size t z)∧Below w.heap.size w w') :
  Calls Tryz.prog 7 #[.agg #[.slice a0 n0 c0],s1.val] w fun e w'=>e=.returned (.bool true)∧Below w.heap.size w w':=by
 have kT0:=fun w h=>toProgram_copy a0 n0 c0 r0 w h
 have kO0:=fun w h=>toProgram_own a0 n0 c0 r0 w h
 have f1:=h1.fits
 have kZ1:=fun left w h=>szVm_any s1 m1 left w h
 have kT1:=fun w h=>toVm_own s1 m1 w h
 have hlm:=h1
 obtain ⟨⟨⟨em0,_⟩,_⟩,⟨⟨em1,_⟩,_⟩,⟨⟨em2,_⟩,_⟩,⟨⟨em3,_⟩,_⟩⟩:=hlm
 obtain ⟨⟨a1_0,n1_0,c1_0⟩,⟨a1_1,n1_1,c1_1⟩,⟨a1_2,n1_2,c1_2⟩,⟨a1_3,n1_3,c1_3⟩⟩:=s1
 have u1:S4.val ((a1_0,n1_0,c1_0),(a1_1,n1_1,c1_1),(a1_2,n1_2,c1_2),(a1_3,n1_3,c1_3))=.agg #[.slice a1_0 n1_0 c1_0,.slice a1_1 n1_1 c1_1,.slice a1_2 n1_2 c1_2,.slice a1_3 n1_3 c1_3]:=rfl
 rw [u1] at kZ1 kT1
 rw [u1]
 clear u1
 simp only at em0 em1 em2 em3
 have bw:Below w.heap.size w ((w.alloc (.cells #[.slice a0 n0 c0] 64)).alloc (.cells #[.slice a1_0 n1_0 c1_0,.slice a1_1 n1_1 c1_1,.slice a1_2 n1_2 c1_2,.slice a1_3 n1_3 c1_3] 71)):=by go_grown
 have p0:Blk ((w.alloc (.cells #[.slice a0 n0 c0] 64)).alloc (.cells #[.slice a1_0 n1_0 c1_0,.slice a1_1 n1_1 c1_1,.slice a1_2 n1_2 c1_2,.slice a1_3 n1_3 c1_3] 71)) w.heap.size 64 [.slice a0 n0 c0]:=blkOld _ (blkAt _ _ _ rfl)
 have p1:Blk ((w.alloc (.cells #[.slice a0 n0 c0] 64)).alloc (.cells #[.slice a1_0 n1_0 c1_0,.slice a1_1 n1_1 c1_1,.slice a1_2 n1_2 c1_2,.slice a1_3 n1_3 c1_3] 71)) (w.heap.size+1) 71 [.slice a1_0 n1_0 c1_0,.slice a1_1 n1_1 c1_1,.slice a1_2 n1_2 c1_2,.slice a1_3 n1_3 c1_3]:=blkAt _ _ _ (by simp)
 go_enter Tryz.func7,Tryz.ntmps7
 go_wp2_with fail
 generalize ((w.alloc (.cells #[.slice a0 n0 c0] 64)).alloc (.cells #[.slice a1_0 n1_0 c1_0,.slice a1_1 n1_1 c1_1,.slice a1_2 n1_2 c1_2,.slice a1_3 n1_3 c1_3] 71))=W0 at *
 have hz:=sizeLeft_or r0 1048576 (by omega)
 have hbd:=size_bounds (rows:=r0) (left:=1048576) (by omega)
 have hcb:=fun h=>sizeLeft_cnt (rows:=r0) (left:=1048576) h
 refine (szProgram_less a0 n0 c0 r0 1048576 _ (h0.below bw) (by omega) (by omega)).mono ?_
 rintro e wz0 ⟨rfl,hb⟩
 generalize sizeLeft 1048576 r0=z0 at hz hbd hcb
 replace bw:=bel_trans bw hb
 replace p0:=p0.below hb
 replace p1:=p1.below hb
 clear hb
 rcases hz with rfl | ⟨y0,x0'⟩
 ·clear hbd hcb
  go_wp2
  go_ret
  exact ⟨rfl,bw⟩
 obtain ⟨hr,hr'⟩:=hbd y0 (by omega)
 have hcnt:=hcb y0
 have hlen:n0≤1048576:=by rw [← h0.1];exact hr
 replace kT0:=fun w h=>kT0 w h hlen (fun t _=>hr' t)
 replace kO0:=fun w h=>kO0 w h hlen (fun t _=>hr' t)
 have hcl:cntP r0 r0.length≤10000000:=by omega
 have hcj:∀ j,j≤r0.length→cntP r0 j≤10000000:=fun j hj=>by have:=cntP_mono r0 j;omega
 have HRJ:Hid (∀ j,j<r0.length→(r0.getD j []).length≤1048576):=fun j _=>hr' j
 clear hbd hr hr' hlen hcb hcnt
 have hn0:decide (z0<0)=false:=by simp;omega
 have cc0:=p1.cell 0
 have cc1:=p1.cell 1
 have cc2:=p1.cell 2
 have cc3:=p1.cell 3
 simp only [List.getElem?_cons_zero,List.getElem?_cons_succ] at cc0 cc1 cc2 cc3
 go_wp2_with fail
 refine (kZ1 z0 _ (h1.below bw) (by omega) (by omega)).mono ?_
 rintro e wz1 ⟨⟨z1,rfl,hz⟩,hb⟩
 replace bw:=bel_trans bw hb
 replace p0:=p0.below hb
 replace p1:=p1.below hb
 clear hb kZ1 cc0 cc1 cc2 cc3
 rcases hz with rfl | ⟨y1,x1',l0,l1,l2,l3⟩
 ·go_wp2
  go_ret
  exact ⟨rfl,bw⟩
 simp only at l0 l1 l2 l3
 replace kT1:=fun w h=>kT1 w h (by omega) (by omega) (by omega) (by omega)
 have lm0:m1.1.length≤1048576:=by omega
 have lm1:m1.2.1.length≤1048576:=by omega
 have lm2:m1.2.2.1.length≤1048576:=by omega
 have lm3:m1.2.2.2.length≤1048576:=by omega
 clear l0 l1 l2 l3 em0 em1 em2 em3
 have hn1:decide (z1<0)=false:=by simp;omega
 clear y0 x0' y1 x1'
 have g0_0:=p0.cell 0
 have g1_0:=p1.cell 0
 have g1_1:=p1.cell 1
 have g1_2:=p1.cell 2
 have g1_3:=p1.cell 3
 simp only [List.getElem?_cons_zero,List.getElem?_cons_succ] at g0_0 g1_0 g1_1 g1_2 g1_3
 go_wp2_with fail
 have bd:Below w.heap.size w wz1.drew:=bel_trans bw (by go_grown)
 refine wp_region_held_drew (S:=(fun w'=>w'.cell? ⟨w.heap.size,0,none⟩=some (.slice a0 n0 c0)∧w'.cell? ⟨w.heap.size+1,0,none⟩=some (.slice a1_0 n1_0 c1_0)∧w'.cell? ⟨w.heap.size+1,1,none⟩=some (.slice a1_1 n1_1 c1_1)∧w'.cell? ⟨w.heap.size+1,2,none⟩=some (.slice a1_2 n1_2 c1_2)∧w'.cell? ⟨w.heap.size+1,3,none⟩=some (.slice a1_3 n1_3 c1_3))) (by kernel_rfl) ⟨g0_0,g1_0,g1_1,g1_2,g1_3⟩ (fun hS0=>?_)
 refine tkm 0 28 (.agg #[.slice a0 n0 c0]) ?_
 refine tkm 2 30 (.agg #[.slice a1_0 n1_0 c1_0,.slice a1_1 n1_1 c1_1,.slice a1_2 n1_2 c1_2,.slice a1_3 n1_3 c1_3]) ?_
 refine tkr 1 29 (fun K hK=>?_)
 go_simp
 refine (kT0 _ (h0.below bd)).mono ?_
 rintro e wq0 ⟨rfl,hO0,hq0⟩
 
 go_wp2_with fail
 refine hK.out _ _ ?_ (fun hS1=>?_)
 ·exact ⟨cells_kept hq0 _ _ hS0.1,cells_kept hq0 _ _ hS0.2.1,cells_kept hq0 _ _ hS0.2.2.1,cells_kept hq0 _ _ hS0.2.2.2.1,cells_kept hq0 _ _ hS0.2.2.2.2⟩
 clear hK
 refine tkr 3 31 (fun K hK=>?_)
 go_simp
 refine (kT1 _ (h1.below (bel_trans bd hq0))).mono ?_
 rintro e wq1 ⟨⟨t1,rfl,hO1⟩,hq1⟩
 
 go_wp2_with fail
 refine hK.out _ _ ?_ (fun hS2=>?_)
 ·exact ⟨cells_kept hq1 _ _ hS1.1,cells_kept hq1 _ _ hS1.2.1,cells_kept hq1 _ _ hS1.2.2.1,cells_kept hq1 _ _ hS1.2.2.2.1,cells_kept hq1 _ _ hS1.2.2.2.2⟩
 clear hK
 skip
 refine tkr 4 32 (fun K hK=>?_)
 go_simp
 refine (kS _ _ _ t1 _ (hO0.codes.below hq1) (hO1.mem f1)).mono ?_
 rintro e wr ⟨⟨tr,rfl,hR0⟩,hr⟩
 obtain ⟨sra,srn,src⟩:=tr
 skip
 simp only at hR0 ⊢
 go_wp2_with fail
 refine hK.out _ _ ?_ (fun hSr=>?_)
 ·exact ⟨cells_kept hr _ _ hS2.1,cells_kept hr _ _ hS2.2.1,cells_kept hr _ _ hS2.2.2.1,cells_kept hr _ _ hS2.2.2.2.1,cells_kept hr _ _ hS2.2.2.2.2⟩
 clear hK
 refine tkm 5 27 (.tuple #[.slice sra srn src,.int .i64 e0]) ?_
 refine tkm 6 33 (.slice sra srn src) ?_
 refine tkm 7 34 (.int .i64 e0) ?_
 refine tkm 8 6 (.slice sra srn src) ?_
 refine tkm 9 7 (.int .i64 e0) ?_
 refine wpAnyH_done (by kernel_rfl) ?_ _
 have hbr:Below wz1.heap.size wz1 wr:=bel_trans (by go_grown) (bel_trans hq0 (bel_trans hq1 hr))
 clear hS0 hS1 hS2 hSr hq0 hq1 hr hO0 hO1 bd g0_0 g1_0 g1_1 g1_2 g1_3
 replace bw:=bel_trans bw hbr
 replace p0:=p0.below hbr
 replace p1:=p1.below hbr
 clear hbr kS
 have cc:=p0.cell 0
 simp only [List.getElem?_cons_zero] at cc
 go_wp2_with fail
 have bo:Below wr.heap.size wr wr:=Below.refl _ _
 have hsz0:=bw.size
 refine (kO0 _ (h0.below bw)).mono ?_
 rintro e wx0 ⟨rfl,hX0,hb⟩
 replace bo:=bel_trans bo hb
 have hB0:wr.heap.size≤wr.heap.size+3:=by omega
 generalize wr.heap.size+3=gg at *
 have hc1:Below wr.heap.size wr (wx0.alloc (.cells #[.slice (some ⟨gg,0,none⟩) n0 n0] 25)):=bel_trans bo (by go_grown)
 have bA:Below wx0.heap.size wx0 (wx0.alloc (.cells #[.slice (some ⟨gg,0,none⟩) n0 n0] 25)):=by go_grown
 have pX0:=Blk.new wx0 25 [.slice (some ⟨gg,0,none⟩) n0 n0]
 replace hX0:=hX0.below bA
 clear hb bA bo cc
 have bo:=hc1
 clear hc1
 have q1:=(p1.below bo).cell 0
 have q2:=(p1.below bo).cell 1
 have q3:=(p1.below bo).cell 2
 have q4:=(p1.below bo).cell 3
 simp only [List.getElem?_cons_zero,List.getElem?_cons_succ] at q1 q2 q3 q4
 go_wp2_with fail
 generalize (wx0.alloc (.cells #[.slice (some ⟨gg,0,none⟩) n0 n0] 25))=wy0 at *
 generalize wx0.heap.size=GX0 at *
 refine (kT1 _ (h1.below (bel_trans bw bo))).mono ?_
 rintro e wx1 ⟨⟨⟨⟨e0a,e0n,e0c⟩,⟨e1a,e1n,e1c⟩,⟨e2a,e2n,e2c⟩,⟨e3a,e3n,e3c⟩⟩,rfl,hX1⟩,hb⟩
 have uX:S4.val ((e0a,e0n,e0c),(e1a,e1n,e1c),(e2a,e2n,e2c),(e3a,e3n,e3c))=.agg #[.slice e0a e0n e0c,.slice e1a e1n e1c,.slice e2a e2n e2c,.slice e3a e3n e3c]:=rfl
 rw [uX]
 clear uX
 have hB1:wr.heap.size≤wy0.heap.size:=bo.size
 replace hX1:=OwnV.lower9 hX1 hB1
 have hy1:=hb.size
 have bA:Below wx1.heap.size wx1 (wx1.alloc (.cells #[.slice e0a e0n e0c,.slice e1a e1n e1c,.slice e2a e2n e2c,.slice e3a e3n e3c] 33)):=by go_grown
 have pX1:=Blk.new wx1 33 [.slice e0a e0n e0c,.slice e1a e1n e1c,.slice e2a e2n e2c,.slice e3a e3n e3c]
 replace bo:=bel_trans bo (bel_trans hb bA)
 replace hX0:=hX0.below (bel_trans hb bA)
 replace pX0:=pX0.below (bel_trans hb bA)
 have hX1lt:=hX1.blocks
 replace hX1:=hX1.below bA
 clear hb bA q1 q2 q3 q4
 have hXc:=hX0.codes9 h0
 have hXv:=hX1.mem f1
 have t0:=pX0.cell 0
 simp only [List.getElem?_cons_zero] at t0
 go_wp2_with fail
 generalize hWi:(wx1.alloc (.cells #[.slice e0a e0n e0c,.slice e1a e1n e1c,.slice e2a e2n e2c,.slice e3a e3n e3c] 33))=wi at *
 have hlt1:wx1.heap.size≤wi.heap.size:=by rw [← hWi];simp
 clear hWi
 generalize wx1.heap.size=GX1 at *
 refine (kI _ _ _ ((e0a,e0n,e0c),(e1a,e1n,e1c),(e2a,e2n,e2c),(e3a,e3n,e3c)) _ hXc hXv (hG0.below (bel_trans bw bo))).mono ?_
 rintro e wj ⟨⟨tr,rfl,hD⟩,hb⟩
 obtain ⟨gra,grn,grc⟩:=tr
 skip
 simp only at hD ⊢
 have hBj:wr.heap.size≤wi.heap.size:=bo.size
 replace bo:=bel_trans bo hb
 replace hX0:=hX0.below hb
 replace hX1:=hX1.below hb
 replace pX0:=pX0.below hb
 replace pX1:=pX1.below hb
 clear hb hXc hXv t0
 generalize wi.heap.size=BJ at *
 have hne0:(e0 != e0)=false:=by simp
 go_wp2_with fail
 have hDi:=hD.ints
 simp only at hDi
 obtain rfl:grn=srn:=hDi.1.symm.trans hR0.1
 refine (eqIntS_same _ _ _ _ _ z _ hDi (hR0.below bo)).mono ?_
 rintro e wk0 ⟨rfl,d0,rfl⟩
 clear hDi
 have hb:Below wj.heap.size wj (wj.drewN d0):=⟨rfl,rfl,rfl,Nat.le_refl _,fun _ _=>rfl⟩
 replace bo:=bel_trans bo hb
 replace hX0:=hX0.below hb
 replace hX1:=hX1.below hb
 replace pX0:=pX0.below hb
 replace pX1:=pX1.below hb
 replace hD:=hD.below hb
 clear hb
 generalize wj.drewN d0=wk0 at *
 have cV0:=pX0.cell 0
 have cC0:=(p0.below bo).cell 0
 simp only [List.getElem?_cons_zero,List.getElem?_cons_succ] at cV0 cC0
 go_wp2_with fail
 have hP:Codes wk0.drew a0 n0 c0 r0:=h0.below (bel_trans (bel_trans bw bo) (by go_grown))
 have hV:Codes wk0.drew (some ⟨gg,0,none⟩) n0 n0 r0:=(hX0.codes9 h0).below (by go_grown)
 have c8:(fun w':World=>w'.cell? ⟨GX0,0,none⟩=some (.slice (some ⟨gg,0,none⟩) n0 n0)∧w'.cell? ⟨w.heap.size,0,none⟩=some (.slice a0 n0 c0)) wk0:=⟨cV0,cC0⟩
 clear cV0 cC0
 go_region_held3 (fun w'=>w'.cell? ⟨GX0,0,none⟩=some (.slice (some ⟨gg,0,none⟩) n0 n0)∧w'.cell? ⟨w.heap.size,0,none⟩=some (.slice a0 n0 c0)) (first | (exact c8) | (exact c9) | (exact ⟨cells_kept hl0 _ _ c9.1,cells_kept hl0 _ _ c9.2⟩))
  (first | (go_at_call 36;refine (kT0 _ hP).mono ?_;rintro e wk0' ⟨rfl,hOk,hk0⟩;have hD9:=hV.below hk0;have c9:=(show (fun w':World=>w'.cell? ⟨GX0,0,none⟩=some (.slice (some ⟨gg,0,none⟩) n0 n0)∧w'.cell? ⟨w.heap.size,0,none⟩=some (.slice a0 n0 c0)) wk0' from ⟨cells_kept hk0 _ _ c8.1,cells_kept hk0 _ _ c8.2⟩)) | (go_at_call 38;refine (eqProgram_same _ _ _ _ _ r0 _ hD9 hOk.codes).mono ?_;rintro e wl0 ⟨rfl,hl0⟩))
 have hb:Below wk0.heap.size wk0 wl0:=bel_trans (by go_grown) (bel_trans hk0 hl0)
 replace bo:=bel_trans bo hb
 replace hX0:=hX0.below hb
 replace hX1:=hX1.below hb
 replace pX0:=pX0.below hb
 replace pX1:=pX1.below hb
 replace hD:=hD.below hb
 clear hb hk0 hl0 hD9 hOk c8 c9 hP hV
 have cV0:=pX1.cell 0
 have cC0:=(p1.below bo).cell 0
 have cV1:=pX1.cell 1
 have cC1:=(p1.below bo).cell 1
 have cV2:=pX1.cell 2
 have cC2:=(p1.below bo).cell 2
 have cV3:=pX1.cell 3
 have cC3:=(p1.below bo).cell 3
 simp only [List.getElem?_cons_zero,List.getElem?_cons_succ] at cV0 cC0 cV1 cC1 cV2 cC2 cV3 cC3
 go_wp2_with fail
 have hP:Vmem wl0.drew ((a1_0,n1_0,c1_0),(a1_1,n1_1,c1_1),(a1_2,n1_2,c1_2),(a1_3,n1_3,c1_3)) m1:=h1.below (bel_trans (bel_trans bw bo) (by go_grown))
 have hV:Vmem wl0.drew ((e0a,e0n,e0c),(e1a,e1n,e1c),(e2a,e2n,e2c),(e3a,e3n,e3c)) m1:=(hX1.mem f1).below (by go_grown)
 have c8:(fun w':World=>w'.cell? ⟨GX1,0,none⟩=some (.slice e0a e0n e0c)∧w'.cell? ⟨GX1,1,none⟩=some (.slice e1a e1n e1c)∧w'.cell? ⟨GX1,2,none⟩=some (.slice e2a e2n e2c)∧w'.cell? ⟨GX1,3,none⟩=some (.slice e3a e3n e3c)∧w'.cell? ⟨w.heap.size+1,0,none⟩=some (.slice a1_0 n1_0 c1_0)∧w'.cell? ⟨w.heap.size+1,1,none⟩=some (.slice a1_1 n1_1 c1_1)∧w'.cell? ⟨w.heap.size+1,2,none⟩=some (.slice a1_2 n1_2 c1_2)∧w'.cell? ⟨w.heap.size+1,3,none⟩=some (.slice a1_3 n1_3 c1_3)) wl0:=⟨cV0,cV1,cV2,cV3,cC0,cC1,cC2,cC3⟩
 clear cV0 cC0 cV1 cC1 cV2 cC2 cV3 cC3
 go_region_held3 (fun w'=>w'.cell? ⟨GX1,0,none⟩=some (.slice e0a e0n e0c)∧w'.cell? ⟨GX1,1,none⟩=some (.slice e1a e1n e1c)∧w'.cell? ⟨GX1,2,none⟩=some (.slice e2a e2n e2c)∧w'.cell? ⟨GX1,3,none⟩=some (.slice e3a e3n e3c)∧w'.cell? ⟨w.heap.size+1,0,none⟩=some (.slice a1_0 n1_0 c1_0)∧w'.cell? ⟨w.heap.size+1,1,none⟩=some (.slice a1_1 n1_1 c1_1)∧w'.cell? ⟨w.heap.size+1,2,none⟩=some (.slice a1_2 n1_2 c1_2)∧w'.cell? ⟨w.heap.size+1,3,none⟩=some (.slice a1_3 n1_3 c1_3)) (first | (exact c8) | (exact c9) | (exact ⟨cells_kept hl1 _ _ c9.1,cells_kept hl1 _ _ c9.2.1,cells_kept hl1 _ _ c9.2.2.1,cells_kept hl1 _ _ c9.2.2.2.1,cells_kept hl1 _ _ c9.2.2.2.2.1,cells_kept hl1 _ _ c9.2.2.2.2.2.1,cells_kept hl1 _ _ c9.2.2.2.2.2.2.1,cells_kept hl1 _ _ c9.2.2.2.2.2.2.2⟩))
  (first | (go_at_call 43;refine (kT1 _ hP).mono ?_;rintro e wk1' ⟨⟨sk1,rfl,hOk⟩,hk1⟩;have hD9:=hV.below hk1;have c9:=(show (fun w':World=>w'.cell? ⟨GX1,0,none⟩=some (.slice e0a e0n e0c)∧w'.cell? ⟨GX1,1,none⟩=some (.slice e1a e1n e1c)∧w'.cell? ⟨GX1,2,none⟩=some (.slice e2a e2n e2c)∧w'.cell? ⟨GX1,3,none⟩=some (.slice e3a e3n e3c)∧w'.cell? ⟨w.heap.size+1,0,none⟩=some (.slice a1_0 n1_0 c1_0)∧w'.cell? ⟨w.heap.size+1,1,none⟩=some (.slice a1_1 n1_1 c1_1)∧w'.cell? ⟨w.heap.size+1,2,none⟩=some (.slice a1_2 n1_2 c1_2)∧w'.cell? ⟨w.heap.size+1,3,none⟩=some (.slice a1_3 n1_3 c1_3)) wk1' from ⟨cells_kept hk1 _ _ c8.1,cells_kept hk1 _ _ c8.2.1,cells_kept hk1 _ _ c8.2.2.1,cells_kept hk1 _ _ c8.2.2.2.1,cells_kept hk1 _ _ c8.2.2.2.2.1,cells_kept hk1 _ _ c8.2.2.2.2.2.1,cells_kept hk1 _ _ c8.2.2.2.2.2.2.1,cells_kept hk1 _ _ c8.2.2.2.2.2.2.2⟩)) | (go_at_call 45;refine (eqVm_same ((e0a,e0n,e0c),(e1a,e1n,e1c),(e2a,e2n,e2c),(e3a,e3n,e3c)) sk1 m1 _ hD9 (hOk.mem f1)).mono ?_;rintro e wl1 ⟨rfl,hl1⟩))
 have hb:Below wl0.heap.size wl0 wl1:=bel_trans (by go_grown) (bel_trans hk1 hl1)
 replace bo:=bel_trans bo hb
 replace hX0:=hX0.below hb
 replace hX1:=hX1.below hb
 replace pX0:=pX0.below hb
 replace pX1:=pX1.below hb
 replace hD:=hD.below hb
 clear hb hk1 hl1 hD9 hOk c8 c9 hP hV
 have hggs:gg≤wl1.heap.size:=by
  obtain ⟨vs,h1,_⟩:=hX0
  exact Nat.le_of_lt (h1.lt gg rfl).2
 have KM:=markProgram_own gg (.slice (some ⟨gg,0,none⟩) n0 n0) 1 r0 wl1 (by omega) (by omega) hcl hcj HRJ.out hggs hX0
 generalize hcn:cntP r0 r0.length=cn at KM hcl
 clear hcn
 have t0:=pX0.cell 0
 simp only [List.getElem?_cons_zero] at t0
 go_wp2_with fail
 refine KM.mono ?_
 rintro e wm0 ⟨rfl,_,hK9,hb⟩
 replace bo:=bo.trans (hb.mono hB0)
 replace hX1:=hX1.but9 hK9 (by decide)
 replace hD:=hD.but9 hK9 (by decide)
 replace pX1:=hK9.blk9 pX1 (by decide)
 skip
 clear hK9 KM hX0 pX0 t0 hb hcj
 have hz0':wr.heap.size≤wm0.heap.size:=bo.size
 have KV:=markVm_own wr.heap.size ((e0a,e0n,e0c),(e1a,e1n,e1c),(e2a,e2n,e2c),(e3a,e3n,e3c)) (1+cn) m1 wm0 (by omega) (by omega) hX1 hz0' lm0 lm1 lm2 lm3
 have hcv:0≤cntV m1:=by unfold cntV;omega
 have hcv2:cntV m1≤4194304:=by unfold cntV;omega
 generalize cntV m1=cv at KV hcv hcv2
 have uX:S4.val ((e0a,e0n,e0c),(e1a,e1n,e1c),(e2a,e2n,e2c),(e3a,e3n,e3c))=.agg #[.slice e0a e0n e0c,.slice e1a e1n e1c,.slice e2a e2n e2c,.slice e3a e3n e3c]:=rfl
 rw [uX] at KV
 clear uX
 have t0:=pX1.cell 0
 have t1:=pX1.cell 1
 have t2:=pX1.cell 2
 have t3:=pX1.cell 3
 simp only [List.getElem?_cons_zero,List.getElem?_cons_succ] at t0 t1 t2 t3
 go_wp2_with fail
 refine KV.mono ?_
 rintro e wm1 ⟨rfl,_,hK9,hb⟩
 replace bo:=bo.trans hb
 skip
 replace hD:=hD.off9 hK9 (hX1lt.lt9 hlt1) (Nat.le_refl _)
 clear hK9 KV hX1 pX1 t0 t1 t2 t3 hb hX1lt
 have hkn:decide (1+(cn:Int)+cv<0)=false:=by simp;omega
 have hDi:=hD.ints
 simp only at hDi
 go_wp2_with fail
 refine (eqIntS_same _ _ _ _ _ z _ hDi (hR0.below bo)).mono ?_
 rintro e wn0 ⟨rfl,d1,rfl⟩
 have hb:Below wm1.heap.size wm1 (wm1.drewN d1):=⟨rfl,rfl,rfl,Nat.le_refl _,fun _ _=>rfl⟩
 replace bo:=bel_trans bo hb
 replace hD:=hD.below hb
 clear hb hDi
 generalize wm1.drewN d1=wn0 at *
 have hlz':grn=z.length:=hD.len.symm
 have HLZ:Hid (grn=z.length):=hlz'
 have hgn:grn≤1048576:=by omega
 clear hlz'
 go_wp2_with fail
 refine (markIntS_grown BJ (gra,grn,grc) 1 z _ (by omega) (by omega) hgn hD).mono ?_
 rintro e wo0 ⟨rfl,hD2,hgr⟩
 replace bo:=bo.grown hgr bo.size (fun x hx=>Nat.le_trans hBj (hD.lt x hx).1)
 clear hgr hD
 simp only
 have hDi:=hD2.ints
 simp only at hDi
 have hq:¬ ((1:Int)+(grn:Int)<0):=by omega
 have hq':(((1:Int)+(grn:Int)) != ((1:Int)+(grn:Int)))=false:=by simp
 have HH:=fun (W:World) (hI:Ints .i64 W gra grn grc (mkTo 1 z grn))=>heldIntS_yes gra grn grc 1 (mkTo 1 z grn) W (by omega) (by omega) hgn hI (fun i hi=>mkTo_get 1 z grn i hi (by rw [← HLZ.out];exact Nat.le_refl _))
 go_wp2_with fail
 refine (HH _ hDi).mono ?_
 rintro e wo1 ⟨rfl,rfl⟩
 have bwo:Below w.heap.size w wo0:=bel_trans bw bo
 have g0_0:=(p0.below bo).cell 0
 have g1_0:=(p1.below bo).cell 0
 have g1_1:=(p1.below bo).cell 1
 have g1_2:=(p1.below bo).cell 2
 have g1_3:=(p1.below bo).cell 3
 simp only [List.getElem?_cons_zero,List.getElem?_cons_succ] at g0_0 g1_0 g1_1 g1_2 g1_3
 go_wp2_with fail
 have bd:Below w.heap.size w wo0.drew:=bel_trans bwo (by go_grown)
 refine wp_region_held_drew (S:=(fun w'=>w'.cell? ⟨w.heap.size,0,none⟩=some (.slice a0 n0 c0)∧w'.cell? ⟨w.heap.size+1,0,none⟩=some (.slice a1_0 n1_0 c1_0)∧w'.cell? ⟨w.heap.size+1,1,none⟩=some (.slice a1_1 n1_1 c1_1)∧w'.cell? ⟨w.heap.size+1,2,none⟩=some (.slice a1_2 n1_2 c1_2)∧w'.cell? ⟨w.heap.size+1,3,none⟩=some (.slice a1_3 n1_3 c1_3))) (by kernel_rfl) ⟨g0_0,g1_0,g1_1,g1_2,g1_3⟩ (fun hS0=>?_)
 refine tkm 0 95 (.agg #[.slice a0 n0 c0]) ?_
 refine tkm 2 97 (.agg #[.slice a1_0 n1_0 c1_0,.slice a1_1 n1_1 c1_1,.slice a1_2 n1_2 c1_2,.slice a1_3 n1_3 c1_3]) ?_
 refine tkr 1 96 (fun K hK=>?_)
 go_simp
 refine (kT0 _ (h0.below bd)).mono ?_
 rintro e wq0 ⟨rfl,hO0,hq0⟩
 
 go_wp2_with fail
 refine hK.out _ _ ?_ (fun hS1=>?_)
 ·exact ⟨cells_kept hq0 _ _ hS0.1,cells_kept hq0 _ _ hS0.2.1,cells_kept hq0 _ _ hS0.2.2.1,cells_kept hq0 _ _ hS0.2.2.2.1,cells_kept hq0 _ _ hS0.2.2.2.2⟩
 clear hK
 refine tkr 3 98 (fun K hK=>?_)
 go_simp
 refine (kT1 _ (h1.below (bel_trans bd hq0))).mono ?_
 rintro e wq1 ⟨⟨t1,rfl,hO1⟩,hq1⟩
 
 go_wp2_with fail
 refine hK.out _ _ ?_ (fun hS2=>?_)
 ·exact ⟨cells_kept hq1 _ _ hS1.1,cells_kept hq1 _ _ hS1.2.1,cells_kept hq1 _ _ hS1.2.2.1,cells_kept hq1 _ _ hS1.2.2.2.1,cells_kept hq1 _ _ hS1.2.2.2.2⟩
 clear hK
 skip
 refine tkr 4 99 (fun K hK=>?_)
 go_simp
 refine (kI _ _ _ t1 _ (hO0.codes.below hq1) (hO1.mem f1) (hG0.below (bel_trans (bel_trans bd hq0) hq1))).mono ?_
 rintro e wp ⟨⟨tr,rfl,hE⟩,hr⟩
 obtain ⟨hra,hrn,hrc⟩:=tr
 skip
 simp only at hE ⊢
 go_wp2_with fail
 refine hK.out _ _ ?_ (fun hSr=>?_)
 ·exact ⟨cells_kept hr _ _ hS2.1,cells_kept hr _ _ hS2.2.1,cells_kept hr _ _ hS2.2.2.1,cells_kept hr _ _ hS2.2.2.2.1,cells_kept hr _ _ hS2.2.2.2.2⟩
 clear hK
 refine tkm 5 94 (.tuple #[.slice hra hrn hrc,.int .i64 e0]) ?_
 refine tkm 6 100 (.slice hra hrn hrc) ?_
 refine tkm 7 101 (.int .i64 e0) ?_
 refine tkm 8 15 (.slice hra hrn hrc) ?_
 refine tkm 9 16 (.int .i64 e0) ?_
 refine wpAnyH_done (by kernel_rfl) ?_ _
 have hbr:Below wo0.heap.size wo0 wp:=bel_trans (by go_grown) (bel_trans hq0 (bel_trans hq1 hr))
 clear hS0 hS1 hS2 hSr hq0 hq1 hr hO0 hO1 bd g0_0 g1_0 g1_1 g1_2 g1_3
 replace bo:=bel_trans bo hbr
 replace hD2:=hD2.below hbr
 clear hbr
 have hEi:=hE.ints
 simp only at hEi
 go_wp2_with fail
 obtain rfl:hrn=grn:=hEi.1.symm.trans hR0.1
 refine (eqIntS_same _ _ _ _ _ z _ hEi (hR0.below bo)).mono ?_
 rintro e wp1 ⟨rfl,d2,rfl⟩
 have hb:Below wp.heap.size wp (wp.drewN d2):=⟨rfl,rfl,rfl,Nat.le_refl _,fun _ _=>rfl⟩
 replace bo:=bel_trans bo hb
 replace hD2:=hD2.below hb
 clear hb hEi hE
 generalize wp.drewN d2=wp1 at *
 have hDi:=hD2.ints
 simp only at hDi
 go_wp2_with fail
 refine (HH _ hDi).mono ?_
 rintro e wp2 ⟨rfl,rfl⟩
 have bz:=bel_trans bw bo
 go_wp2
 go_ret
 exact ⟨rfl,bz⟩


theorem foot_same {rows:List (List I3)} (hp:progOk rows=true) {m:V4} (hs:shapeOk m=true) :
  ((fullM rows m).length<2000→(ftF rows 19 m ([],[])).1.length<2000∧(ftF rows 19 m ([],[])).2=mrgI ((fullM rows m).flatMap fun r=>lookM r.1))∧(¬ (fullM rows m).length<2000→¬ (ftF rows 19 m ([],[])).1.length<2000):=by
 have hm:∀ x y,y ∈ nxV rows x→∃ t ∈ nxM rows x,t.2=y:=fun x y hy=>by
  obtain ⟨k,hk,rfl⟩:=List.mem_map.1 hy
  exact ⟨(k,(goM rows x k).1),List.mem_map.2 ⟨k,hk,rfl⟩,rfl⟩
 have hm2:∀ x (t:Int × V4),t ∈ nxM rows x→t.2 ∈ nxV rows x:=fun x t ht=>by
  obtain ⟨k,hk,rfl⟩:=List.mem_map.1 ht
  exact List.mem_map.2 ⟨k,hk,rfl⟩
 have h:=dfs_all (nxV rows) lookM 19 m ((fullM rows m).map (·.1)) (leftN rows) (fun x=>shapeOk x=true) hs
  (fun x hx y hy=>by
   obtain ⟨k,hk,rfl⟩:=List.mem_map.1 hy
   have:=left_step hp hx (enab_halt hk)
   exact ⟨goM_shape hp hx (enab_halt hk),by omega⟩)
  (by have:=left_18 hp m;omega)
  (List.mem_map.2 ⟨(m,0,0),List.mem_of_getElem? (fullM_head rows m),rfl⟩) (fullM_nodup rows m)
  (fun hl x hx y hy=>by
   obtain ⟨r,hr,rfl⟩:=List.mem_map.1 hx
   obtain ⟨t,ht,rfl⟩:=hm _ _ hy
   exact fullM_closed (by simp at hl;omega) r hr t ht)
  (fun C h0 hC x hx=>by
   obtain ⟨r,hr,rfl⟩:=List.mem_map.1 hx
   exact fullM_ind C h0 (fun x hx t ht=>hC x hx _ (hm2 x t ht)) r hr)
 have e:((fullM rows m).map (·.1)).flatMap lookM=(fullM rows m).flatMap fun r=>lookM r.1:=by rw [List.flatMap_map]
 rw [List.length_map,e] at h
 exact h

theorem specFootOf_is (a:Option Addr) (len cap:Nat) (rows:List (List I3)) (s:S4) (m:V4) (w:World) (hC:Codes w a len cap rows) (h:Vmem w s m) :
  Calls Tryz.prog 32 #[.agg #[.slice a len cap],s.val] w fun e w'=>(∃ t:Sl,e=.returned (.tuple #[.slice t.1 t.2.1 t.2.2,.int .i64 (footC rows m)])∧Ints .i64 w' t.1 t.2.1 t.2.2 (footA rows m))∧Below w.heap.size w w':=by
 have kV:=fun (W:World) (hb:Below w.heap.size w W)=>specVmOK_is a len cap rows s m W (hC.below hb) (h.below hb)
 have hM:=fun (W:World) (hb:Below w.heap.size w W)=>h.below hb
 obtain ⟨⟨a0,n0,c0⟩,⟨a1,n1,c1⟩,⟨a2,n2,c2⟩,⟨a3,n3,c3⟩⟩:=s
 have uA:S4.val ((a0,n0,c0),(a1,n1,c1),(a2,n2,c2),(a3,n3,c3))=.agg #[.slice a0 n0 c0,.slice a1 n1 c1,.slice a2 n2 c2,.slice a3 n3 c3]:=rfl
 rw [uA] at kV ⊢
 clear h
 obtain ⟨cd,hcd⟩:∃ cd,cd=footC rows m:=⟨_,rfl⟩
 obtain ⟨zs,hzs⟩:∃ zs,zs=footA rows m:=⟨_,rfl⟩
 rw [← hcd,← hzs]
 have bw:Below w.heap.size w ((w.alloc (.cells #[.slice a len cap] 25)).alloc (.cells #[.slice a0 n0 c0,.slice a1 n1 c1,.slice a2 n2 c2,.slice a3 n3 c3] 33)):=by go_grown
 have pP:Blk ((w.alloc (.cells #[.slice a len cap] 25)).alloc (.cells #[.slice a0 n0 c0,.slice a1 n1 c1,.slice a2 n2 c2,.slice a3 n3 c3] 33)) w.heap.size 25 [.slice a len cap]:=blkOld _ (blkAt _ _ _ rfl)
 have pS:Blk ((w.alloc (.cells #[.slice a len cap] 25)).alloc (.cells #[.slice a0 n0 c0,.slice a1 n1 c1,.slice a2 n2 c2,.slice a3 n3 c3] 33)) (w.heap.size+1) 33 [.slice a0 n0 c0,.slice a1 n1 c1,.slice a2 n2 c2,.slice a3 n3 c3]:=blkAt _ _ _ (by simp)
 go_enter Tryz.func32,Tryz.ntmps32
 go_wp2_with fail
 generalize ((w.alloc (.cells #[.slice a len cap] 25)).alloc (.cells #[.slice a0 n0 c0,.slice a1 n1 c1,.slice a2 n2 c2,.slice a3 n3 c3] 33))=U at *
 have kVx:=kV U bw
 clear kV
 go_wp2_with (first | refine wpList_load_blk rfl 25 _ rfl w.heap.size rfl pP _ Tryz.underlying25 rfl (by kernel_rfl) ?_ | refine wpList_load_blk rfl 33 _ rfl (w.heap.size+1) rfl pS _ Tryz.underlying33 rfl (by kernel_rfl) ?_)
 refine kVx.mono ?_
 rintro e w1 ⟨rfl,hb⟩
 replace bw:=bel8 bw hb
 replace pP:=pP.below hb
 replace pS:=pS.below hb
 clear hb kVx
 cases hok:(progOk rows && shapeOk m)
 ·have HZ:Hid (zs=[]∧cd=1):=⟨by rw [hzs];exact footA_bad hok,by rw [hcd];exact footC_bad hok⟩
  have bz:Below w.heap.size w (w1.alloc (.cells #[] 3)):=bel8 bw (by go_grown)
  clear hcd hzs hok uA
  go_wp2
  go_ret2
  exact ⟨by rw [HZ.out.1,HZ.out.2];first | exact ⟨(_,0,0),rfl,rfl,Nat.le_refl _,Nat.zero_le _,.inl rfl⟩ | exact ⟨_,0,0,rfl,rfl,Nat.le_refl _,Nat.zero_le _,.inl rfl⟩,bz⟩
 ·obtain ⟨hp,hs⟩:=both_ok hok
  obtain ⟨hl3,cs,hR⟩:=hC.rowsAt hp
  subst hl3
  have hb2:Below w1.heap.size w1 ((w1.alloc (.cells #[] 9)).alloc (.cells #[] 3)):=by go_grown
  have hSx:Strs ((w1.alloc (.cells #[] 9)).alloc (.cells #[] 3)) (some ⟨w1.heap.size,0,none⟩) 0 0 (([]:List V4).map keyT):=⟨rfl,Nat.le_refl _,Nat.zero_le _,.inl rfl⟩
  have hFx:Ints .i64 ((w1.alloc (.cells #[] 9)).alloc (.cells #[] 3)) (some ⟨w1.heap.size+1,0,none⟩) 0 0 ([]:List Int):=⟨rfl,Nat.le_refl _,Nat.zero_le _,.inl rfl⟩
  have bw2:=bel8 bw hb2
  have kF:=foot_all (cap:=cap) hp 19 m ([],[]) hs (by have:=left_18 hp m;omega) ⟨fun x hx=>by simp at hx,by simp,by simp⟩ (by simp) _ a cs _ _ _ _ _ _ (hR.below bw2) (hM _ bw2) hSx hFx
  rw [uA] at kF
  obtain ⟨hY,hN⟩:=foot_same hp hs
  simp only [List.length_nil] at kF
  have hfo:=(ftF_ok hp 19 hs (st:=([],[])) ⟨fun x hx=>by simp at hx,by simp,by simp⟩ (by simp)).2.1
  generalize ftF rows 19 m ([],[])=st at *
  clear hSx hFx uA
  go_wp2_with (first | refine wpList_load_blk rfl 25 _ rfl w.heap.size rfl pP _ Tryz.underlying25 rfl (by kernel_rfl) ?_ | refine wpList_load_blk rfl 33 _ rfl (w.heap.size+1) rfl pS _ Tryz.underlying33 rfl (by kernel_rfl) ?_)
  refine kF.mono ?_
  rintro e w3 ⟨⟨sb,so,sc,fa,fc,rfl,hS3,hF3⟩,hb⟩
  have bz:=bel8 bw2 hb
  clear hb kF pP pS bw bw2 hb2
  by_cases hl:st.1.length<2000
  ·have hl9:(st.1.length:Int)<2000:=by omega
   have hfl:(fullM rows m).length<2000:=by
    rcases Nat.lt_or_ge (fullM rows m).length 2000 with h9 | h9
    ·exact h9
    ·exact absurd hl (hN (by omega))
   have HZ:Hid (zs=st.2∧cd=0):=⟨by rw [hzs,(hY hfl).2];exact footA_ok hok hfl,by rw [hcd];exact footC_ok hok hfl⟩
   clear hcd hzs hok hY hN hfl hS3
   go_wp2
   go_ret2
   exact ⟨by rw [HZ.out.1,HZ.out.2];first | exact ⟨(_,_,_),rfl,hF3⟩ | exact ⟨_,_,_,rfl,hF3⟩,bz⟩
  ·have hl9:¬ (st.1.length:Int)<2000:=by omega
   have hl8:(2000:Int)≤(st.1.length:Int):=by omega
   have hfl:¬ (fullM rows m).length<2000:=fun h9=>hl (hY h9).1
   have HZ:Hid (zs=[]∧cd=15):=⟨by rw [hzs];exact footA_much hok hfl,by rw [hcd];exact footC_much hok hfl⟩
   have bq:Below w.heap.size w (w3.alloc (.cells #[] 3)):=bel8 bz (by go_grown)
   clear hcd hzs hok hY hN hfl hS3 hF3
   go_wp2
   go_ret2
   exact ⟨by rw [HZ.out.1,HZ.out.2];first | exact ⟨(_,0,0),rfl,rfl,Nat.le_refl _,Nat.zero_le _,.inl rfl⟩ | exact ⟨_,0,0,rfl,rfl,Nat.le_refl _,Nat.zero_le _,.inl rfl⟩,bq⟩
theorem fnExactFootOf_walk (a0:Option Addr) (n0 c0:Nat) (r0:List (List I3)) (s1:S4) (m1:V4) (w:World) (h0:Codes w a0 n0 c0 r0) (h1:Vmem w s1 m1) (hG:VmShape w) :
  Calls Tryz.prog 7 #[.agg #[.slice a0 n0 c0],s1.val] w fun e w'=>e=.returned (.bool true)∧Below w.heap.size w w':=
 fnExactFootOf_of a0 n0 c0 r0 s1 m1 _ (footA_len r0 m1) _ w h0 h1 hG
  (fun a n c s w hC h=>specFootOf_is a n c r0 s m1 w hC h)
  (fun a n c s w hC h hG=>implFootOf_is a n c r0 s m1 w hC h hG)
theorem fnExactFootOf_laid {W:World} (h:laidMetH Tryz.prog Rows.fnExactFootOfRow.laid W):VmShape W:=vmShape_of_laid rfl h
theorem fnExactFootOf_door_met (os:Os) (args:Array Value):laidMetH Tryz.prog Rows.fnExactFootOfRow.laid ((World.doorLaid Tryz.prog 400 os).forCall (fun _ _=>0) ⟨#[],args,[]⟩).memory:=
 laidMetH_of_parts3 (fuel:=8) (laidMet_of_run' 8 (by kernel_rfl) (by kernel_rfl)) (by kernel_rfl) (by kernel_rfl)
end Go.Proofs.YtfpopbbmnbehiaaGreatDoor
