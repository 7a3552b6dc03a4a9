/-
  Joined: StsS, FotS.
-/
import Derived.Test.YtifoggpohlegmaaGreatDoorF41
import Derived.Test.YtifoggpohlegmaaGreatDoorF42

namespace Go.Proofs.YtifoggpohlegmaaGreatDoor
set_option maxRecDepth 100000
set_option maxHeartbeats 16000000
open Go.RowKit
set_option linter.unusedVariables false
set_option linter.unusedSimpArgs false

theorem info_str6:(Tryz.prog.info? 9).map (fun i=>(i.zero,i.size,i.bytes))=some (some (.string ⟨#[]⟩),1,16):=by kernel_rfl
theorem one_str6 (t:ByteArray):∀ u ∈ [Value.string t],u.oneCell'=true:=by intro u hu;simp at hu;subst hu;rfl


def nxV (rows:List (List I3)) (m:V4):List V4:=(enabM rows m 3).map fun k=>(goM rows m k).1
abbrev ftF (rows:List (List I3)):Nat→V4→St8 V4→St8 V4:=dfsF (nxV rows) lookM
abbrev ftL (rows:List (List I3)):Nat→List V4→St8 V4→St8 V4:=dfsL (nxV rows) lookM
def FtOk (st:St8 V4):Prop:=(∀ x ∈ st.1,shapeOk x=true)∧st.1.length≤2000∧st.2.length≤3*st.1.length
theorem nxV_shape {rows:List (List I3)} (hp:progOk rows=true) {m:V4} (hs:shapeOk m=true):∀ y ∈ nxV rows m,shapeOk y=true:=fun y hy=>by
 obtain ⟨k,hk,rfl⟩:=List.mem_map.1 hy
 exact goM_shape hp hs (enab_halt hk)
theorem ftOk_put {m:V4} {st:St8 V4} (hs:shapeOk m=true) (h:FtOk st) (hl:st.1.length<2000):FtOk (st.1++[m],mrgI (st.2++lookM m)):=by
 obtain ⟨h1,h2,h3⟩:=h
 refine ⟨fun x hx=>?_,by simp;omega,?_⟩
 ·rcases List.mem_append.1 hx with hx | hx
  ·exact h1 x hx
  ·simp at hx;subst hx;exact hs
 ·have:=mrgI_len (st.2++lookM m)
  simp [lookM] at this ⊢
  omega
theorem ftF_ok {rows:List (List I3)} (hp:progOk rows=true) (f:Nat) {m:V4} {st:St8 V4} (hs:shapeOk m=true) (h:FtOk st) (hl:st.1.length<2000):FtOk (ftF rows f m st):=
 (dfs_inv (nxV rows) lookM FtOk (fun m=>shapeOk m=true) (fun x hx=>nxV_shape hp hx) (fun m st hs h _ hl=>ftOk_put hs h hl) f).1 m st hs h hl
theorem key_mem {S:List V4} (hS:∀ x ∈ S,shapeOk x=true) {m:V4} (hm:shapeOk m=true):keyT m ∈ S.map keyT↔m ∈ S:=by
 constructor
 ·intro h
  obtain ⟨x,hx,e⟩:=List.mem_map.1 h
  rw [← key_inj6 (hS x hx) hm e]
  exact hx
 ·exact fun h=>List.mem_map.2 ⟨m,h,rfl⟩
def FtGot (e:Ending) (w':World) (st:St8 V4):Prop:=∃ sb so sc fa fc,e=.returned (.tuple #[.slice (some ⟨sb,so,none⟩) st.1.length sc,.slice fa st.2.length fc])∧Strs w' (some ⟨sb,so,none⟩) st.1.length sc (st.1.map keyT)∧Ints .i64 w' fa st.2.length fc st.2
def FtC (rows:List (List I3)) (cap f:Nat):Prop:=∀ (m:V4) (st:St8 V4),shapeOk m=true→leftN rows m<f→FtOk st→st.1.length<2000→∀ (w:World) (a9:Option Addr) (cs:Sl × Sl × Sl) (s:S4) (sb so sc:Nat) (fa:Option Addr) (fc:Nat),RowsAt w a9 cs rows→Vmem w s m→Strs w (some ⟨sb,so,none⟩) st.1.length sc (st.1.map keyT)→Ints .i64 w fa st.2.length fc st.2 →
  Calls Tryz.prog 110 #[.agg #[.slice a9 3 cap],s.val,.slice (some ⟨sb,so,none⟩) st.1.length sc,.slice fa st.2.length fc] w fun e w'=>FtGot e w' (ftF rows f m st)∧Below w.heap.size w w'
theorem strs_news {w:World} {b off n c:Nat} {ts:List ByteArray} (h:Strs w (some ⟨b,off,none⟩) n c ts):∀ j u,(ts.map Value.string)[j]?=some u→w.cell? ((⟨b,off,none⟩:Addr).add j)=some u:=by
 intro j u hj
 obtain ⟨hl,_,_,hcase⟩:=h
 have hjl:j<ts.length:=by simpa using (List.getElem?_eq_some_iff.1 hj).1
 rcases hcase with h0 | ⟨b',off',he,hb,hc⟩
 ·omega
 ·cases he
  have:=hc j (by omega)
  have e:(⟨b,off,none⟩:Addr).add j=⟨b,off+j,none⟩:=by unfold Addr.add;split<;>simp_all
  rw [e,this]
  simp [List.getElem?_eq_getElem hjl] at hj
  simp [List.getD,List.getElem?_eq_getElem hjl,hj]
theorem one_strs (ts:List ByteArray):∀ u ∈ ts.map Value.string,u.oneCell'=true:=by
 intro u hu
 obtain ⟨x,_,rfl⟩:=List.mem_map.1 hu
 rfl
theorem strs_own {w:World} {B n c:Nat} {a:Option Addr} {ts:List ByteArray} (h:w.ownsRow B 9 1 (.slice a n c) n (ts.map Value.string)):Strs w a n c ts:=by
 obtain ⟨a',c',e,hO⟩:=OwnT.of_owns h
 cases e
 exact hO.strs
structure OnFt (rows:List (List I3)) (f:Nat) (m:V4) (R:St8 V4) (w5 wr:World) (s2 s3:Value) (i:Nat) (sti:St8 V4):Prop where
 eq:ftL rows f ((nxV rows m).drop i) sti=R
 ok:FtOk sti
 sn:∃ sb so sc,s2=.slice (some ⟨sb,so,none⟩) sti.1.length sc∧Strs wr (some ⟨sb,so,none⟩) sti.1.length sc (sti.1.map keyT)
 ft:∃ fa fc,s3=.slice fa sti.2.length fc∧Ints .i64 wr fa sti.2.length fc sti.2
 bl:Below w5.heap.size w5 wr

theorem foot_step {rows:List (List I3)} {cap:Nat} (hp:progOk rows=true) {f:Nat} (ih:FtC rows cap f):FtC rows cap (f+1):=by
 intro m st hs hf hok hl w a9 cs s sb so sc fa fc hR h hS hF
 obtain ⟨i0,hi0,hz0,hz1,hz2⟩:=info_parts info_str6
 obtain ⟨⟨t0a,t0n,t0c⟩,⟨t1a,t1n,t1c⟩,⟨t2a,t2n,t2c⟩,⟨t3a,t3n,t3c⟩⟩:=s
 have ut:S4.val ((t0a,t0n,t0c),(t1a,t1n,t1c),(t2a,t2n,t2c),(t3a,t3n,t3c))=.agg #[.slice t0a t0n t0c,.slice t1a t1n t1c,.slice t2a t2n t2c,.slice t3a t3n t3c]:=rfl
 have kK:=fun (W:World) (b:Below w.heap.size w W)=>l03Key_is ((t0a,t0n,t0c),(t1a,t1n,t1c),(t2a,t2n,t2c),(t3a,t3n,t3c)) m W (h.below b) hs
 have kE:=fun (W:World) (b:Below w.heap.size w W)=>l03Enabled_is a9 3 cap rows ((t0a,t0n,t0c),(t1a,t1n,t1c),(t2a,t2n,t2c),(t3a,t3n,t3c)) m cs W rfl (hR.below b) (h.below b) hp hs
 have kL:=fun (W:World) (b:Below w.heap.size w W)=>l08Looks_is ((t0a,t0n,t0c),(t1a,t1n,t1c),(t2a,t2n,t2c),(t3a,t3n,t3c)) m W (h.below b) hs
 have kF:=fun (W:World) (b:Below w.heap.size w W)=>l06Find_is (some ⟨sb,so,none⟩) st.1.length sc (st.1.map keyT) (keyT m) W (hS.below b) (by omega)
 rw [ut] at kK kE kL ⊢
 obtain ⟨R,hR0⟩:∃ R,R=ftF rows (f+1) m st:=⟨_,rfl⟩
 rw [← hR0]
 have hfi:=findT_iff (ts:=st.1.map keyT) (t:=keyT m) st.1.length (by simp)
 rw [List.take_of_length_le (by simp),key_mem hok.1 hs] at hfi
 have bw:Below w.heap.size w ((w.alloc (.cells #[.slice a9 3 cap] 25)).alloc (.cells #[.slice t0a t0n t0c,.slice t1a t1n t1c,.slice t2a t2n t2c,.slice t3a t3n t3c] 33)):=by go_grown
 have pP:Blk ((w.alloc (.cells #[.slice a9 3 cap] 25)).alloc (.cells #[.slice t0a t0n t0c,.slice t1a t1n t1c,.slice t2a t2n t2c,.slice t3a t3n t3c] 33)) w.heap.size 25 [.slice a9 3 cap]:=blkOld _ (blkAt _ _ _ rfl)
 have pS:Blk ((w.alloc (.cells #[.slice a9 3 cap] 25)).alloc (.cells #[.slice t0a t0n t0c,.slice t1a t1n t1c,.slice t2a t2n t2c,.slice t3a t3n t3c] 33)) (w.heap.size+1) 33 [.slice t0a t0n t0c,.slice t1a t1n t1c,.slice t2a t2n t2c,.slice t3a t3n t3c]:=blkAt _ _ _ (by simp)
 go_enter Tryz.func110,Tryz.ntmps110
 go_wp2_with fail
 generalize ((w.alloc (.cells #[.slice a9 3 cap] 25)).alloc (.cells #[.slice t0a t0n t0c,.slice t1a t1n t1c,.slice t2a t2n t2c,.slice t3a t3n t3c] 33))=w0 at *
 have kKx:=kK w0 bw
 go_wp2_with (refine wpList_load_blk rfl 33 _ rfl (w.heap.size+1) rfl pS _ Tryz.underlying33 rfl (by kernel_rfl) ?_)
 refine kKx.mono ?_
 rintro e w1 ⟨rfl,hb⟩
 replace bw:=bel_trans bw hb
 replace pP:=pP.below hb
 replace pS:=pS.below hb
 have kFx:=kF w1 bw
 clear hb kKx kK kF
 generalize findT (st.1.map keyT) (keyT m) st.1.length=fi at *
 go_wp2_with fail
 refine kFx.mono ?_
 rintro e w2 ⟨rfl,rfl⟩
 clear kFx
 by_cases h0:0≤fi
 ·have hm:m ∈ st.1:=hfi.1 h0
  have HR:Hid (R=st):=by rw [Hid,hR0];exact dfsF_old _ _ f hm
  have hS2:=hS.below bw
  have hF2:=hF.below bw
  clear hR0 hfi hm kE kL
  go_wp2
  go_ret2
  exact ⟨by rw [HR.out];exact ⟨_,_,_,_,_,rfl,hS2,hF2⟩,bw⟩
 have hm:m ∉ st.1:=fun hm=>h0 (hfi.2 hm)
 have h0':fi<0:=by omega
 have hd0:decide (0≤fi)=false:=decide_eq_false h0
 have HR:Hid (R=ftL rows f (nxV rows m) (st.1++[m],mrgI (st.2++lookM m))):=by rw [Hid,hR0];exact dfsF_new _ _ f hm
 clear hR0 hfi hm
 have hl3:st.1.length≤2000:=hok.2.1
 have hf6:st.2.length≤6000:=by have:=hok.2.2;omega
 have q0:=empty8 w1 9 1 w.heap.size bw.size
 have ha:Below w1.heap.size w1 (w1.alloc (.cells #[] 9)):=by go_grown
 have hS1:=hS.below (bel_trans bw ha)
 have hsz:=bw.size
 go_wp2_with (at_builtin;refine wpList_append_own _ rfl _ _ 47 rfl w.heap.size 9 i0 (.string ⟨#[]⟩) 1 16 Tryz.underlying47 hi0 hz0 hz1 hz2 rfl (by decide) _ _ _ rfl q0 ⟨sb,so,none⟩ st.1.length sc ((st.1.map keyT).map Value.string) rfl (by simp) (strs_news hS1) (one_strs _) ?c3 ?c4 ?c5 ?_)
 case c3=>unfold maxLen;omega
 case c4=>omega
 case c5=>simp;omega
 intro v3 w3 q3 g3 _
 replace bw:=(bel_trans bw ha).grown g3 (bel_trans bw ha).size (fun q e=>(q0.lt q e).1)
 replace pP:=(pP.below ha).kept g3 (own_ne_blk9 q0 (pP.below ha) (by decide))
 replace pS:=(pS.below ha).kept g3 (own_ne_blk9 q0 (pS.below ha) (by decide))
 have q4:w3.ownsRow w.heap.size 9 1 v3 st.1.length ((st.1.map keyT).map Value.string):=by simpa using q3
 clear q3 g3 q0 ha hS1
 generalize hkm:keyT m=key at *
 have hsz3:=bw.size
 go_wp2_with (at_builtin;refine wpList_append_own _ rfl _ _ 47 rfl w.heap.size 9 i0 (.string ⟨#[]⟩) 1 16 Tryz.underlying47 hi0 hz0 hz1 hz2 rfl (by decide) _ _ _ rfl (q4.alloc _) ⟨w3.heap.size,0,none⟩ 1 1 [.string key] rfl rfl (cell_one_new _ _ _) (one_str6 _) ?c3 ?c4 ?c5 ?_)
 case c3=>unfold maxLen;omega
 case c4=>omega
 case c5=>simp;omega
 intro v4 w4 q5 g4 _
 have ha:Below w3.heap.size w3 (w3.alloc (.cells #[.string key] 9)):=by go_grown
 replace bw:=(bel_trans bw ha).grown g4 (bel_trans bw ha).size (fun q e=>(q4.lt q e).1)
 replace pP:=(pP.below ha).kept g4 (own_ne_blk9 (q4.alloc (.cells #[.string key] 9)) (pP.below ha) (by decide))
 replace pS:=(pS.below ha).kept g4 (own_ne_blk9 (q4.alloc (.cells #[.string key] 9)) (pS.below ha) (by decide))
 have q6:w4.ownsRow w.heap.size 9 1 v4 (st.1++[m]).length (((st.1++[m]).map keyT).map Value.string):=by
  subst hkm
  simpa using q5
 clear q5 g4 q4 ha hkm
 obtain ⟨gs,cs9,rfl⟩:=some8 q6 (by simp)
 have hS4:=strs_own q6
 clear q6
 have kLx:=kL w4 bw
 clear kL
 go_wp2_with (refine wpList_load_blk rfl 33 _ rfl (w.heap.size+1) rfl pS _ Tryz.underlying33 rfl (by kernel_rfl) ?_)
 refine kLx.mono ?_
 rintro e w5 ⟨⟨vl,rfl,ql⟩,hb⟩
 replace bw:=bel_trans bw hb
 replace pP:=pP.below hb
 replace pS:=pS.below hb
 replace hS4:=hS4.below hb
 obtain ⟨la9,lc9,rfl⟩:=slice8 ql
 have kM:=l08Merge_is fa st.2.length fc st.2 la9 (lookM m).length lc9 (lookM m) w5 (hF.below bw) (ints8 ql) (by omega) (by simp [lookM])
 clear hb kLx ql
 go_wp2_with fail
 refine kM.mono ?_
 rintro e w6 ⟨⟨vf,rfl,qf⟩,hb⟩
 replace bw:=bel_trans bw hb
 replace pP:=pP.below hb
 replace pS:=pS.below hb
 replace hS4:=hS4.below hb
 obtain ⟨fa9,fc9,rfl⟩:=slice8 qf
 have hF6:=ints8 qf
 have kEx:=kE w6 bw
 clear hb kM qf kE
 go_wp2_with (first | refine wpList_load_blk rfl 25 _ rfl w.heap.size rfl pP _ Tryz.underlying25 rfl (by kernel_rfl) ?_ | refine wpList_load_blk rfl 33 _ rfl (w.heap.size+1) rfl pS _ Tryz.underlying33 rfl (by kernel_rfl) ?_)
 refine kEx.mono ?_
 rintro e w7 ⟨⟨⟨ea,en,ec⟩,rfl,hE⟩,hb⟩
 have hLn:(enabM rows m 3).length=en:=by have:=hE.1;simpa using this
 have hn3:en≤3:=by rw [← hLn];exact enabM_len rows m 3
 have hEI:=hE.ints
 replace bw:=bel_trans bw hb
 replace pP:=pP.below hb
 replace pS:=pS.below hb
 replace hS4:=hS4.below hb
 replace hF6:=hF6.below hb
 clear hb kEx hE hS hF
 have st0:OnFt rows f m R w7 w7 (.slice (some ⟨gs,0,none⟩) (st.1.length+1) cs9) (.slice fa9 (mrgI (st.2++lookM m)).length fc9) 0 (st.1++[m],mrgI (st.2++lookM m)):=⟨by rw [HR.out];rfl,ftOk_put hs hok hl,⟨gs,0,cs9,by simp,hS4⟩,⟨_,_,rfl,hF6⟩,Below.refl _ _⟩
 clear hS4 hF6 HR hl3 hf6 hok hl hsz hsz3 h0 h0' hd0
 go_wp2_with fail
 go_loopw [2,3,12] (fun s2 s3 s12 wr=>∃ (i:Nat) (sti:St8 V4),s12=.int .i64 i∧i≤en∧OnFt rows f m R w7 wr s2 s3 i sti) (fun _ _ s12 _=>en - (Go.RowKit.intOf s12).toNat)
 case atStart=>exact ⟨0,_,rfl,Nat.zero_le _,st0⟩
 case round =>
  clear st0
  obtain ⟨i,sti,rfl,hin,hO⟩:=hrel
  obtain ⟨heq,hok,⟨xb,xo,xc,rfl,hS⟩,⟨ya,yc,rfl,hF⟩,bl⟩:=hO
  have hl2:=hok.2.1
  by_cases hlt:i<en
  ·have hlt3:(i:Int)<(en:Int):=by omega
   by_cases hfu:sti.1.length<2000
   ·have hfu9:(sti.1.length:Int)<2000:=by omega
    have hkj:(enabM rows m 3)[i]?=some ((enabM rows m 3).getD i 0):=by rw [List.getD,List.getElem?_eq_getElem (by omega)];rfl
    have hz:=enab_halt (List.mem_of_getElem? hkj)
    obtain ⟨h0k,h2k,hd,_⟩:=halt_can hz
    obtain ⟨k,hk⟩:∃ k:Nat,(enabM rows m 3).getD i 0=(k:Int):=⟨_,(Int.toNat_of_nonneg h0k).symm⟩
    obtain ⟨lb,lo,rfl,hc,hlb⟩:=ints_cellS (hEI.below bl) (show i<en from hlt)
    rw [hk] at hkj hz hd h0k h2k hc
    rw [Int.toNat_natCast] at hd
    have hk3:k<3:=by omega
    clear hk hlb
    have hx:=goM_shape hp hs hz
    have hlx:=left_step hp hs hz
    have hdr:(nxV rows m).drop i=(goM rows m (k:Int)).1::(nxV rows m).drop (i+1):=by
     have e9:(nxV rows m)[i]?=some (goM rows m (k:Int)).1:=by unfold nxV;rw [List.getElem?_map,hkj];rfl
     obtain ⟨h1,h2⟩:=List.getElem?_eq_some_iff.1 e9
     rw [List.drop_eq_getElem_cons h1,h2]
    rw [hdr] at heq
    replace heq:ftL rows f ((nxV rows m).drop (i+1)) (if sti.1.length<2000 then ftF rows f (goM rows m (k:Int)).1 sti else sti)=R:=heq
    rw [if_pos hfu] at heq
    have kI:=ih (goM rows m (k:Int)).1 sti hx (by omega) hok hfu
    have hok2:=ftF_ok hp f hx hok hfu
    have kP:=fun (W:World) (b:Below w.heap.size w W)=>l03Step_is (cap:=cap) rfl (hR.below b) (h.below b) hp hs hk3 hd
    rw [← goM_nat] at kP
    have ut:S4.val ((t0a,t0n,t0c),(t1a,t1n,t1c),(t2a,t2n,t2c),(t3a,t3n,t3c))=.agg #[.slice t0a t0n t0c,.slice t1a t1n t1c,.slice t2a t2n t2c,.slice t3a t3n t3c]:=rfl
    rw [ut] at kP
    have HEQ:Hid (ftL rows f ((nxV rows m).drop (i+1)) (ftF rows f (goM rows m (k:Int)).1 sti)=R):=heq
    clear heq hdr hkj hz hd hlx
    generalize goM rows m (k:Int)=zf at *
    obtain ⟨z,fl⟩:=zf
    simp only at kP hx kI HEQ hok2
    generalize ftF rows f z sti=st2 at *
    have pPr:=pP.below bl
    have pSr:=pS.below bl
    have bwr:=bel_trans bw bl
    have hi0:(0:Int)≤(i:Int):=by omega
    go_wp2_with fail
    have hb9:Below wr.heap.size wr wr.drew:=by go_grown
    refine wp_region_held_drew (S:=(fun w'=>w'.cell? ⟨w.heap.size,0,none⟩=some (.slice a9 3 cap)∧w'.cell? ⟨w.heap.size+1,0,none⟩=some (.slice t0a t0n t0c)∧w'.cell? ⟨w.heap.size+1,1,none⟩=some (.slice t1a t1n t1c)∧w'.cell? ⟨w.heap.size+1,2,none⟩=some (.slice t2a t2n t2c)∧w'.cell? ⟨w.heap.size+1,3,none⟩=some (.slice t3a t3n t3c)∧w'.cell? ⟨lb,lo+i,none⟩=some (.int .i64 (k:Int)))) (by kernel_rfl) ⟨by simpa using pPr.cell 0,by simpa using pSr.cell 0,by simpa using pSr.cell 1,by simpa using pSr.cell 2,by simpa using pSr.cell 3,hc⟩ (fun hS0=>?_)
    refine tkm 0 50 (.agg #[.slice a9 3 cap]) ?_
    refine tkm 1 51 (.agg #[.slice t0a t0n t0c,.slice t1a t1n t1c,.slice t2a t2n t2c,.slice t3a t3n t3c]) ?_
    refine tkm 2 52 (.slice (some ⟨lb,lo,none⟩) en ec) ?_
    refine tkm 3 53 (.int .i64 (i:Int)) ?_
    refine tkm 4 54 (.pointer (some ⟨lb,lo+i,none⟩)) ?_
    refine tkm 5 55 (.int .i64 (k:Int)) ?_
    replace bwr:=bel_trans bwr hb9
    replace bl:=bel_trans bl hb9
    replace hS:=hS.below hb9
    replace hF:=hF.below hb9
    replace pPr:=pPr.below hb9
    clear hb9 pSr
    generalize wr.drew=V at *
    refine wpAnyH_ready (rs:=[6,10]) (by kernel_rfl) (by simp) ?_
    refine AllReadyH.cons (o:=⟨some 56,_,_,_,_,_⟩) rfl (fun K hK=>?_) (AllReadyH.cons (o:=⟨some 13,_,_,_,_,_⟩) rfl (fun K hK=>?_) AllReadyH.nil)
    ·have kPx:=kP V bwr
     go_simp
     refine kPx.mono ?_
     rintro e V1 ⟨⟨⟨⟨z0a,z0n,z0c⟩,⟨z1a,z1n,z1c⟩,⟨z2a,z2n,z2c⟩,⟨z3a,z3n,z3c⟩⟩,rfl,hO2⟩,hb1⟩
     have uz:S4.val ((z0a,z0n,z0c),(z1a,z1n,z1c),(z2a,z2n,z2c),(z3a,z3n,z3c))=.agg #[.slice z0a z0n z0c,.slice z1a z1n z1c,.slice z2a z2n z2c,.slice z3a z3n z3c]:=rfl
     rw [uz]
     clear uz
     go_wp2_with fail
     refine hK.out _ _ ⟨cells_kept hb1 _ _ hS0.1,cells_kept hb1 _ _ hS0.2.1,cells_kept hb1 _ _ hS0.2.2.1,cells_kept hb1 _ _ hS0.2.2.2.1,cells_kept hb1 _ _ hS0.2.2.2.2.1,cells_kept hb1 _ _ hS0.2.2.2.2.2⟩ (fun hS5=>?_)
     clear hK kPx
     try simp only [Act.put,tka,tkb,tkc]
     refine tkm 7 49 (.tuple #[.agg #[.slice z0a z0n z0c,.slice z1a z1n z1c,.slice z2a z2n z2c,.slice z3a z3n z3c],.int .i64 fl]) ?_
     refine tkm 8 57 (.agg #[.slice z0a z0n z0c,.slice z1a z1n z1c,.slice z2a z2n z2c,.slice z3a z3n z3c]) ?_
     refine tkm 9 58 (.int .i64 fl) ?_
     refine tkr 10 13 (fun K hK=>?_)
     have hb2:Below V1.heap.size V1 (V1.alloc (.cells #[.slice none 0 0,.slice none 0 0,.slice none 0 0,.slice none 0 0] 33)):=by go_grown
     have pX:Blk (V1.alloc (.cells #[.slice none 0 0,.slice none 0 0,.slice none 0 0,.slice none 0 0] 33)) V1.heap.size 33 [.slice none 0 0,.slice none 0 0,.slice none 0 0,.slice none 0 0]:=blkAt _ _ _ rfl
     replace hO2:=hO2.below hb2
     have hbA:=bel_trans hb1 hb2
     have hYV:V.heap.size≤V1.heap.size:=hb1.size
     go_simp
     refine hK.out _ _ ⟨cells_kept hbA _ _ hS0.1,cells_kept hbA _ _ hS0.2.1,cells_kept hbA _ _ hS0.2.2.1,cells_kept hbA _ _ hS0.2.2.2.1,cells_kept hbA _ _ hS0.2.2.2.2.1,cells_kept hbA _ _ hS0.2.2.2.2.2⟩ (fun hS6=>?_)
     clear hK hb1 hb2
     generalize (V1.alloc (.cells #[.slice none 0 0,.slice none 0 0,.slice none 0 0,.slice none 0 0] 33))=V2 at *
     generalize V1.heap.size=Y at *
     try simp only [Act.put,tka,tkb,tkc]
     refine tkz 11 (fun K hK=>?_)
     refine step_store_blkD rfl 33 _ _ rfl Y [.slice z0a z0n z0c,.slice z1a z1n z1c,.slice z2a z2n z2c,.slice z3a z3n z3c] rfl rfl pX (by kernel_rfl) rfl rfl ?_
     intro V8 pX8 g8
     replace hO2:=hO2.kept9 g8 pX (by decide)
     have hbig:=hbA.grown g8 hbA.size (fun q hq=>by cases hq;exact hYV)
     refine hK.out _ _ ⟨cells_kept hbig _ _ hS0.1,cells_kept hbig _ _ hS0.2.1,cells_kept hbig _ _ hS0.2.2.1,cells_kept hbig _ _ hS0.2.2.2.1,cells_kept hbig _ _ hS0.2.2.2.2.1,cells_kept hbig _ _ hS0.2.2.2.2.2⟩ (fun hS7=>?_)
     clear hK pX g8 hbA hYV
     have pX:=pX8.out
     clear pX8
     try simp only [Act.put,tka,tkb,tkc]
     refine tkm 12 14 (.int .i64 fl) ?_
     refine wpAnyH_done (by kernel_rfl) ?_ _
     replace bwr:=bel_trans bwr hbig
     replace bl:=bel_trans bl hbig
     replace hS:=hS.below hbig
     replace hF:=hF.below hbig
     replace pPr:=pPr.below hbig
     clear hbig hS0 hS5 hS6 hS7 kP hc
     have fz:=(shape_fits9 hx).1
     have kIx:=kI V8 a9 cs ((z0a,z0n,z0c),(z1a,z1n,z1c),(z2a,z2n,z2c),(z3a,z3n,z3c)) xb xo xc ya yc (hR.below bwr) (hO2.mem fz) hS hF
     have uz:S4.val ((z0a,z0n,z0c),(z1a,z1n,z1c),(z2a,z2n,z2c),(z3a,z3n,z3c))=.agg #[.slice z0a z0n z0c,.slice z1a z1n z1c,.slice z2a z2n z2c,.slice z3a z3n z3c]:=rfl
     rw [uz] at kIx
     clear uz kI
     go_wp2_with (first | refine wpList_load_blk rfl 25 _ rfl w.heap.size rfl pPr _ Tryz.underlying25 rfl (by kernel_rfl) ?_ | refine wpList_load_blk rfl 33 _ rfl Y rfl pX _ Tryz.underlying33 rfl (by kernel_rfl) ?_)
     refine kIx.mono ?_
     rintro e Va ⟨⟨b1,o1,c1,fb,fc1,rfl,hS9,hF9⟩,hb⟩
     replace bl:=bel_trans bl hb
     clear hb kIx pX hO2 fz hx hS hF pPr bwr
     have st9:OnFt rows f m R w7 Va (.slice (some ⟨b1,o1,none⟩) st2.1.length c1) (.slice fb st2.2.length fc1) (i+1) st2:=⟨HEQ.out,hok2,⟨_,_,_,rfl,hS9⟩,⟨_,_,rfl,hF9⟩,bl⟩
     clear HEQ hok2 hS9 hF9 bl
     go_wp2
     go_roundw
     case rel=>exact ⟨i+1,st2,by go_num,by omega,st9⟩
     case measure=>simp [Go.RowKit.intOf];omega
    ·have hb1:Below V.heap.size V (V.alloc (.cells #[.slice none 0 0,.slice none 0 0,.slice none 0 0,.slice none 0 0] 33)):=by go_grown
     have pX:Blk (V.alloc (.cells #[.slice none 0 0,.slice none 0 0,.slice none 0 0,.slice none 0 0] 33)) V.heap.size 33 [.slice none 0 0,.slice none 0 0,.slice none 0 0,.slice none 0 0]:=blkAt _ _ _ rfl
     have hYV:V.heap.size≤V.heap.size:=Nat.le_refl _
     go_simp
     refine hK.out _ _ ⟨cells_kept hb1 _ _ hS0.1,cells_kept hb1 _ _ hS0.2.1,cells_kept hb1 _ _ hS0.2.2.1,cells_kept hb1 _ _ hS0.2.2.2.1,cells_kept hb1 _ _ hS0.2.2.2.2.1,cells_kept hb1 _ _ hS0.2.2.2.2.2⟩ (fun hS6=>?_)
     clear hK
     have kPx:=kP _ (bel_trans bwr hb1)
     generalize (V.alloc (.cells #[.slice none 0 0,.slice none 0 0,.slice none 0 0,.slice none 0 0] 33))=V2 at *
     obtain ⟨Y,hY⟩:∃ Y,Y=V.heap.size:=⟨_,rfl⟩
     rw [← hY] at pX hYV ⊢
     replace hYV:V.heap.size≤Y:=by omega
     clear hY
     try simp only [Act.put,tka,tkb,tkc]
     refine tkr 6 56 (fun K hK=>?_)
     go_simp
     refine kPx.mono ?_
     rintro e V3 ⟨⟨⟨⟨z0a,z0n,z0c⟩,⟨z1a,z1n,z1c⟩,⟨z2a,z2n,z2c⟩,⟨z3a,z3n,z3c⟩⟩,rfl,hO2⟩,hb2⟩
     have uz:S4.val ((z0a,z0n,z0c),(z1a,z1n,z1c),(z2a,z2n,z2c),(z3a,z3n,z3c))=.agg #[.slice z0a z0n z0c,.slice z1a z1n z1c,.slice z2a z2n z2c,.slice z3a z3n z3c]:=rfl
     rw [uz]
     clear uz
     go_wp2_with fail
     have hbA:=bel_trans hb1 hb2
     replace pX:=pX.below hb2
     refine hK.out _ _ ⟨cells_kept hbA _ _ hS0.1,cells_kept hbA _ _ hS0.2.1,cells_kept hbA _ _ hS0.2.2.1,cells_kept hbA _ _ hS0.2.2.2.1,cells_kept hbA _ _ hS0.2.2.2.2.1,cells_kept hbA _ _ hS0.2.2.2.2.2⟩ (fun hS5=>?_)
     clear hK kPx hb1 hb2
     try simp only [Act.put,tka,tkb,tkc]
     refine tkm 7 49 (.tuple #[.agg #[.slice z0a z0n z0c,.slice z1a z1n z1c,.slice z2a z2n z2c,.slice z3a z3n z3c],.int .i64 fl]) ?_
     refine tkm 8 57 (.agg #[.slice z0a z0n z0c,.slice z1a z1n z1c,.slice z2a z2n z2c,.slice z3a z3n z3c]) ?_
     refine tkm 9 58 (.int .i64 fl) ?_
     refine tkz 11 (fun K hK=>?_)
     refine step_store_blkD rfl 33 _ _ rfl Y [.slice z0a z0n z0c,.slice z1a z1n z1c,.slice z2a z2n z2c,.slice z3a z3n z3c] rfl rfl pX (by kernel_rfl) rfl rfl ?_
     intro V8 pX8 g8
     replace hO2:=hO2.kept9 g8 pX (by decide)
     have hbig:=hbA.grown g8 hbA.size (fun q hq=>by cases hq;exact hYV)
     refine hK.out _ _ ⟨cells_kept hbig _ _ hS0.1,cells_kept hbig _ _ hS0.2.1,cells_kept hbig _ _ hS0.2.2.1,cells_kept hbig _ _ hS0.2.2.2.1,cells_kept hbig _ _ hS0.2.2.2.2.1,cells_kept hbig _ _ hS0.2.2.2.2.2⟩ (fun hS7=>?_)
     clear hK pX g8 hbA hYV
     have pX:=pX8.out
     clear pX8
     try simp only [Act.put,tka,tkb,tkc]
     refine tkm 12 14 (.int .i64 fl) ?_
     refine wpAnyH_done (by kernel_rfl) ?_ _
     replace bwr:=bel_trans bwr hbig
     replace bl:=bel_trans bl hbig
     replace hS:=hS.below hbig
     replace hF:=hF.below hbig
     replace pPr:=pPr.below hbig
     clear hbig hS0 hS5 hS6 hS7 kP hc
     have fz:=(shape_fits9 hx).1
     have kIx:=kI V8 a9 cs ((z0a,z0n,z0c),(z1a,z1n,z1c),(z2a,z2n,z2c),(z3a,z3n,z3c)) xb xo xc ya yc (hR.below bwr) (hO2.mem fz) hS hF
     have uz:S4.val ((z0a,z0n,z0c),(z1a,z1n,z1c),(z2a,z2n,z2c),(z3a,z3n,z3c))=.agg #[.slice z0a z0n z0c,.slice z1a z1n z1c,.slice z2a z2n z2c,.slice z3a z3n z3c]:=rfl
     rw [uz] at kIx
     clear uz kI
     go_wp2_with (first | refine wpList_load_blk rfl 25 _ rfl w.heap.size rfl pPr _ Tryz.underlying25 rfl (by kernel_rfl) ?_ | refine wpList_load_blk rfl 33 _ rfl Y rfl pX _ Tryz.underlying33 rfl (by kernel_rfl) ?_)
     refine kIx.mono ?_
     rintro e Va ⟨⟨b1,o1,c1,fb,fc1,rfl,hS9,hF9⟩,hb⟩
     replace bl:=bel_trans bl hb
     clear hb kIx pX hO2 fz hx hS hF pPr bwr
     have st9:OnFt rows f m R w7 Va (.slice (some ⟨b1,o1,none⟩) st2.1.length c1) (.slice fb st2.2.length fc1) (i+1) st2:=⟨HEQ.out,hok2,⟨_,_,_,rfl,hS9⟩,⟨_,_,rfl,hF9⟩,bl⟩
     clear HEQ hok2 hS9 hF9 bl
     go_wp2
     go_roundw
     case rel=>exact ⟨i+1,st2,by go_num,by omega,st9⟩
     case measure=>simp [Go.RowKit.intOf];omega
   ·have hfu9:¬ (sti.1.length:Int)<2000:=by omega
    have hfu8:decide ((sti.1.length:Int)<2000)=false:=decide_eq_false hfu9
    have HF9:Hid (R=sti):=by rw [Hid,← heq];exact dfsL_full _ _ f _ hfu
    clear heq hfu
    clear pP pS hEI
    go_wp2
    go_ret2
    exact ⟨by rw [HF9.out];exact ⟨_,_,_,_,_,rfl,hS,hF⟩,bel_trans bw bl⟩
  ·have hge:¬ (i:Int)<(en:Int):=by omega
   have hge8:decide ((i:Int)<(en:Int))=false:=decide_eq_false hge
   have HF9:Hid (R=sti):=by
    have e9:(nxV rows m).drop i=[]:=List.drop_of_length_le (by unfold nxV;rw [List.length_map];omega)
    rw [Hid,← heq,e9]
    rfl
   clear heq
   clear pP pS hEI
   go_wp2
   go_ret2
   exact ⟨by rw [HF9.out];exact ⟨_,_,_,_,_,rfl,hS,hF⟩,bel_trans bw bl⟩
theorem foot_all {rows:List (List I3)} {cap:Nat} (hp:progOk rows=true):∀ f,FtC rows cap f
 | 0=>fun m st hs hf=>by omega
 | f+1=>foot_step hp (foot_all hp f)
end Go.Proofs.YtifoggpohlegmaaGreatDoor
