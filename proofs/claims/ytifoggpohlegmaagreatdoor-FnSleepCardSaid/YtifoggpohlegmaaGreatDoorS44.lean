/-
  Joined: StlS, SrhS.
-/
import Derived.Test.YtifoggpohlegmaaGreatDoorS43

namespace Go.Proofs.YtifoggpohlegmaaGreatDoor
set_option maxRecDepth 100000
set_option maxHeartbeats 16000000
open Go.RowKit
set_option linter.unusedVariables false
set_option linter.unusedSimpArgs false

def RowGotN (e:Ending) (w:World) (B:Nat) (ks:List Int):Prop:=∃ v,e=.returned v∧v≠.slice none 0 0∧w.ownsRow B 3 1 v ks.length (ks.map (Value.int .i64))
def stlJ (rows:List (List I3)) (m:V4) (Z:List Int) (k i:Nat):List Int:=(Z.take i).filter fun j=>!depM (eventM rows m k) (eventM rows m j.toNat)
theorem stlJ_all {rows:List (List I3)} {m:V4} {Z:List Int} {k i:Nat} (h:Z.length≤i):stlJ rows m Z k i=stillM rows m Z (k:Int):=by
 unfold stlJ stillM
 rw [List.take_of_length_le h,Int.toNat_natCast]
theorem stlJ_len (rows:List (List I3)) (m:V4) (Z:List Int) (k i:Nat):(stlJ rows m Z k i).length≤Z.length:=Nat.le_trans (List.length_filter_le _ _) (List.length_take_le' _ _)
theorem stlJ_succ {rows:List (List I3)} {m:V4} {Z:List Int} {k i q:Nat} (h:i<Z.length) (hq:Z.getD i 0=(q:Int)):stlJ rows m Z k (i+1)=if depM (eventM rows m k) (eventM rows m q) then stlJ rows m Z k i else stlJ rows m Z k i++[(q:Int)]:=by
 unfold stlJ
 rw [take_snoc7 h,List.filter_append,hq]
 cases hd:depM (eventM rows m k) (eventM rows m q)<;>simp [hd]

theorem l07Still_is {w:World} {a9:Option Addr} {cap:Nat} {cs:Sl × Sl × Sl} {rows:List (List I3)} {s:S4} {m:V4} (hR:RowsAt w a9 cs rows) (h:Vmem w s m) (hp:progOk rows=true) (hs:shapeOk m=true) {k:Nat} (hk:k<3) (hd:doneM rows m k=false) (la:Option Addr) (n c:Nat) (Z:List Int) (hL:Ints .i64 w la n c Z) (hn:n≤4096) (hZ:SlpOk rows m Z) :
  Calls Tryz.prog 182 #[.agg #[.slice a9 3 cap],s.val,.slice la n c,.int .i64 k] w fun e w'=>RowGotN e w' w.heap.size (stillM rows m Z k)∧Below w.heap.size w w':=by
 obtain ⟨i1,hi1,hy0,hy1,hy2⟩:=info_parts info_int
 have hll:=hL.1
 obtain ⟨⟨t0a,t0n,t0c⟩,⟨t1a,t1n,t1c⟩,⟨t2a,t2n,t2c⟩,⟨t3a,t3n,t3c⟩⟩:=s
 have ut:S4.val ((t0a,t0n,t0c),(t1a,t1n,t1c),(t2a,t2n,t2c),(t3a,t3n,t3c))=.agg #[.slice t0a t0n t0c,.slice t1a t1n t1c,.slice t2a t2n t2c,.slice t3a t3n t3c]:=rfl
 have kE:=fun (W:World) (b:Below w.heap.size w W) (q:Nat) (hq:q<3) (hdq:doneM rows m q=false)=>l05Event_is (cap:=cap) (hR.below b) (h.below b) hp hs hq hdq
 rw [ut] at kE ⊢
 clear ut
 have kEx:=fun W b=>kE W b k hk hd
 have HS0:Hid (stlJ rows m Z k 0=[]):=by simp [Hid,stlJ]
 have HSA:Hid (stlJ rows m Z k n=stillM rows m Z (k:Int)):=stlJ_all (by omega)
 have HSS:Hid (∀ i q:Nat,i<n→Z.getD i 0=(q:Int)→stlJ rows m Z k (i+1)=if depM (eventM rows m k) (eventM rows m q) then stlJ rows m Z k i else stlJ rows m Z k i++[(q:Int)]):=fun i q h1 h2=>stlJ_succ (by omega) h2
 have hJl:=fun i=>stlJ_len rows m Z k i
 have hZq:∀ i,i<n→∃ q:Nat,Z.getD i 0=(q:Int)∧q<3∧doneM rows m q=false:=fun i hi=>hZ _ (by simp [List.getD,show i<Z.length by omega])
 generalize hy:eventM rows m k=y at *
 obtain ⟨y0,y1,y2,y3⟩:=y
 simp only at kEx
 clear hy hd hp hZ
 have bw:Below w.heap.size w (((w.alloc (.cells #[.slice a9 3 cap] 25)).alloc (.cells #[.slice t0a t0n t0c,.slice t1a t1n t1c,.slice t2a t2n t2c,.slice t3a t3n t3c] 33)).alloc (.cells #[] 3)):=by go_grown
 have pP:Blk (((w.alloc (.cells #[.slice a9 3 cap] 25)).alloc (.cells #[.slice t0a t0n t0c,.slice t1a t1n t1c,.slice t2a t2n t2c,.slice t3a t3n t3c] 33)).alloc (.cells #[] 3)) w.heap.size 25 [.slice a9 3 cap]:=blkOld _ (blkOld _ (blkAt _ _ _ rfl))
 have pS:Blk (((w.alloc (.cells #[.slice a9 3 cap] 25)).alloc (.cells #[.slice t0a t0n t0c,.slice t1a t1n t1c,.slice t2a t2n t2c,.slice t3a t3n t3c] 33)).alloc (.cells #[] 3)) (w.heap.size+1) 33 [.slice t0a t0n t0c,.slice t1a t1n t1c,.slice t2a t2n t2c,.slice t3a t3n t3c]:=blkOld _ (blkAt _ _ _ (by simp))
 have q0:(((w.alloc (.cells #[.slice a9 3 cap] 25)).alloc (.cells #[.slice t0a t0n t0c,.slice t1a t1n t1c,.slice t2a t2n t2c,.slice t3a t3n t3c] 33)).alloc (.cells #[] 3)).ownsRow w.heap.size 3 1 (.slice (some ⟨w.heap.size+1+1,0,none⟩) 0 0) 0 []:=by
  have h9:=own_emptyB ((w.alloc (.cells #[.slice a9 3 cap] 25)).alloc (.cells #[.slice t0a t0n t0c,.slice t1a t1n t1c,.slice t2a t2n t2c,.slice t3a t3n t3c] 33)) 3 1 w.heap.size (by simp;omega)
  simpa using h9
 obtain ⟨g0,hg0⟩:∃ g0,g0=w.heap.size+1+1:=⟨_,rfl⟩
 go_enter Tryz.func182,Tryz.ntmps182
 go_wp2_with (first | refine wpList_load_blk rfl 25 _ rfl w.heap.size rfl pP _ Tryz.underlying25 rfl (by kernel_rfl) ?_ | refine wpList_load_blk rfl 33 _ rfl (w.heap.size+1) rfl pS _ Tryz.underlying33 rfl (by kernel_rfl) ?_)
 rw [← hg0] at q0 ⊢
 clear hg0
 generalize (((w.alloc (.cells #[.slice a9 3 cap] 25)).alloc (.cells #[.slice t0a t0n t0c,.slice t1a t1n t1c,.slice t2a t2n t2c,.slice t3a t3n t3c] 33)).alloc (.cells #[] 3))=U at *
 refine (kEx U bw).mono ?_
 rintro e w1 ⟨rfl,hb⟩
 replace bw:=bel_trans bw hb
 replace pP:=pP.below hb
 replace pS:=pS.below hb
 replace q0:=owns_below q0 hb
 clear hb kEx
 have pN:=Blk.new w1 38 [.int .i64 0,.int .i64 0,.int .i64 0,.int .i64 0]
 have ha:Below w1.heap.size w1 (w1.alloc (.cells #[.int .i64 0,.int .i64 0,.int .i64 0,.int .i64 0] 38)):=by go_grown
 go_wp2_with (refine wpList_store_blk rfl 38 _ _ rfl w1.heap.size [.int .i64 y0,.int .i64 y1,.int .i64 y2,.int .i64 y3] rfl rfl pN (by kernel_rfl) rfl rfl ?_)
 intro w2 pE2 g2
 have pE:=pE2.out
 have hb2:Below w1.heap.size w1 w2:=ha.grown g2 ha.size (fun q e=>by cases e;exact Nat.le_refl _)
 replace bw:=bel_trans bw hb2
 replace pP:=pP.below hb2
 replace pS:=pS.below hb2
 replace q0:=owns_below q0 hb2
 generalize w1.heap.size=E at *
 clear pE2 g2 ha pN hb2
 go_wp2_with fail
 go_loopw [9,11] (fun s9 s11 wr=>∃ i:Nat,s11=.int .i64 i∧i≤n∧Hid (s9≠.slice none 0 0)∧Hid (wr.ownsRow w.heap.size 3 1 s9 (stlJ rows m Z k i).length ((stlJ rows m Z k i).map (Value.int .i64)))∧Blk wr w.heap.size 25 [.slice a9 3 cap]∧Blk wr (w.heap.size+1) 33 [.slice t0a t0n t0c,.slice t1a t1n t1c,.slice t2a t2n t2c,.slice t3a t3n t3c]∧Blk wr E 38 [.int .i64 y0,.int .i64 y1,.int .i64 y2,.int .i64 y3]∧Below w.heap.size w wr) (fun _ s11 _=>n - (intOf s11).toNat)
 case atStart=>exact ⟨0,rfl,Nat.zero_le _,(show Hid (_≠_) from fun e=>by cases e),by rw [HS0.out];exact q0,pP,pS,pE,bw⟩
 case round =>
  clear q0 pP pS pE bw HS0
  obtain ⟨i,rfl,hin,HNN,HQ,pP,pS,pE,bw⟩:=hrel
  obtain ⟨va,vn,vc,rfl⟩:=own_slice6 HQ.out
  by_cases hlt:i<n
  ·obtain ⟨q,hq,hq3,hqd⟩:=hZq i hlt
   obtain ⟨lb,lo,rfl,hc,hlb⟩:=ints_cellS (hL.below bw) (show i<n from hlt)
   rw [hq] at hc
   have HX:Hid (stlJ rows m Z k (i+1)=if depM (y0,y1,y2,y3) (eventM rows m q) then stlJ rows m Z k i else stlJ rows m Z k i++[(q:Int)]):=HSS.out i q hlt hq
   have hjl:=hJl i
   have kEx:=fun W b=>kE W b q hq3 hqd
   generalize eventM rows m q=x at *
   obtain ⟨x0,x1,x2,x3⟩:=x
   simp only at kEx
   have kD:=fun (W:World)=>specDepends_is (y0,y1,y2,y3) (x0,x1,x2,x3) W
   unfold I4.val at kD
   simp only at kD
   have hlt3:(i:Int)<(n:Int):=by omega
   have hi0:(0:Int)≤(i:Int):=by omega
   have hdr:Below wr.heap.size wr wr.drew:=by go_grown
   go_wp2_with fail
   refine wp_region_held_drew (S:=(fun w'=>w'.rangeAt E 0 [.int .i64 y0,.int .i64 y1,.int .i64 y2,.int .i64 y3]∧w'.rangeAt w.heap.size 0 [.slice a9 3 cap]∧w'.rangeAt (w.heap.size+1) 0 [.slice t0a t0n t0c,.slice t1a t1n t1c,.slice t2a t2n t2c,.slice t3a t3n t3c]∧w'.cell? ⟨lb,lo+i,none⟩=some (.int .i64 (q:Int)))) (by kernel_rfl) ⟨blk_range pE,blk_range pP,blk_range pS,hc⟩ (fun hS0=>?_)
   refine wpAnyH_take (i:=0) (oi:=⟨some 23,_,_,_,_,_⟩) (v:=.agg ([.int .i64 y0,.int .i64 y1,.int .i64 y2,.int .i64 y3]).toArray) rfl (by kernel_rfl) (by kernel_rfl) (by kernel_rfl) (fun _ _ _ h=>h) (yieldsIf_load_mid (by rfl) 38 _ rfl E 0 rfl [.int .i64 y0,.int .i64 y1,.int .i64 y2,.int .i64 y3] _ (fun _ h=>h.1) Tryz.underlying38 rfl (by kernel_rfl)) (by assumption) ?_
   simp only [Act.put,tka,tkb,tkc]
   refine wpAnyH_take (i:=1) (oi:=⟨some 24,_,_,_,_,_⟩) (v:=.agg ([.slice a9 3 cap]).toArray) rfl (by kernel_rfl) (by kernel_rfl) (by kernel_rfl) (fun _ _ _ h=>h) (yieldsIf_load_mid (by rfl) 25 _ rfl w.heap.size 0 rfl [.slice a9 3 cap] _ (fun _ h=>h.2.1) Tryz.underlying25 rfl (by kernel_rfl)) (by assumption) ?_
   simp only [Act.put,tka,tkb,tkc]
   refine wpAnyH_take (i:=2) (oi:=⟨some 25,_,_,_,_,_⟩) (v:=.agg ([.slice t0a t0n t0c,.slice t1a t1n t1c,.slice t2a t2n t2c,.slice t3a t3n t3c]).toArray) rfl (by kernel_rfl) (by kernel_rfl) (by kernel_rfl) (fun _ _ _ h=>h) (yieldsIf_load_mid (by rfl) 33 _ rfl (w.heap.size+1) 0 rfl [.slice t0a t0n t0c,.slice t1a t1n t1c,.slice t2a t2n t2c,.slice t3a t3n t3c] _ (fun _ h=>h.2.2.1) Tryz.underlying33 rfl (by kernel_rfl)) (by assumption) ?_
   simp only [Act.put,tka,tkb,tkc]
   refine tkm 3 26 (.slice (some ⟨lb,lo,none⟩) n c) ?_
   refine tkm 4 27 (.int .i64 (i:Int)) ?_
   refine tkm 5 28 (.pointer (some ⟨lb,lo+i,none⟩)) ?_
   refine tkm 6 29 (.int .i64 (q:Int)) ?_
   have bwd:=bel_trans bw hdr
   replace pP:=pP.below hdr
   replace pS:=pS.below hdr
   replace pE:=pE.below hdr
   have Q:=owns_below HQ.out hdr
   replace hc:=cells_kept hdr _ _ hc
   clear hdr HQ bw
   generalize wr.drew=V at *
   refine tkr 7 30 (fun K hK=>?_)
   go_simp
   refine (kEx V bwd).mono ?_
   rintro e V1 ⟨rfl,hb1⟩
   replace bwd:=bel_trans bwd hb1
   replace pP:=pP.below hb1
   replace pS:=pS.below hb1
   replace pE:=pE.below hb1
   replace Q:=owns_below Q hb1
   replace hc:=cells_kept hb1 _ _ hc
   clear hb1
   go_wp2_with fail
   refine hK.out _ _ ⟨blk_range pE,blk_range pP,blk_range pS,hc⟩ (fun hS9=>?_)
   clear hK
   try simp only [Act.put,tka,tkb,tkc]
   clear hS0
   refine tkr 8 31 (fun K hK=>?_)
   go_simp
   refine (kD V1).mono ?_
   rintro e V2 ⟨rfl,hb2⟩
   replace bwd:=bel_trans bwd hb2
   replace pP:=pP.below hb2
   replace pS:=pS.below hb2
   replace pE:=pE.below hb2
   replace Q:=owns_below Q hb2
   replace hc:=cells_kept hb2 _ _ hc
   clear hb2
   go_wp2_with fail
   refine hK.out _ _ ⟨blk_range pE,blk_range pP,blk_range pS,hc⟩ (fun hS9=>?_)
   clear hK
   try simp only [Act.put,tka,tkb,tkc]
   refine tkm 9 32 (.bool (!depM (y0,y1,y2,y3) (x0,x1,x2,x3))) ?_
   refine wpAnyH_done (by kernel_rfl) ?_ _
   cases hdp:depM (y0,y1,y2,y3) (x0,x1,x2,x3)
   ·have HX2:Hid (stlJ rows m Z k (i+1)=stlJ rows m Z k i++[(q:Int)]):=by rw [Hid,HX.out,hdp];rfl
    clear HX hdp kEx kD
    have hwz:=bwd.size
    go_wp2_with (at_builtin;refine wpList_append_own_at _ rfl _ _ 27 rfl w.heap.size 3 i1 (.int .i64 0) 1 8 Tryz.underlying27 hi1 hy0 hy1 hy2 rfl (by decide) _ _ _ rfl (Q.alloc _) ⟨V2.heap.size,0,none⟩ 1 1 [.int .i64 (q:Int)] rfl rfl (cell_one_new _ _ _) (by simp [Value.oneCell']) ?c3 ?c4 ?c5 ?_)
    case c3=>unfold maxLen;omega
    case c4=>omega
    case c5=>first | (simp;omega) | omega
    intro v7 W7 q7 gr7 hn7 _
    have HN7:Hid (v7≠.slice none 0 0):=by first | exact hn7 | exact fun e=>by have:=(hn7.1 e).2;omega
    clear hn7
    have ha7:Below V2.heap.size V2 (V2.alloc (.cells #[.int .i64 (q:Int)] 3)):=by go_grown
    have Q7:=owns_below Q ha7
    have R9:Hid (W7.ownsRow w.heap.size 3 1 v7 (stlJ rows m Z k (i+1)).length ((stlJ rows m Z k (i+1)).map (Value.int .i64))):=by rw [HX2.out,List.length_append,List.map_append];exact q7
    have pP7:=(pP.below ha7).kept gr7 (own_ne_blk9 Q7 (pP.below ha7) (by decide))
    have pS7:=(pS.below ha7).kept gr7 (own_ne_blk9 Q7 (pS.below ha7) (by decide))
    have pE7:=(pE.below ha7).kept gr7 (own_ne_blk9 Q7 (pE.below ha7) (by decide))
    have bw7:=(bel_trans bwd ha7).grown gr7 (bel_trans bwd ha7).size (fun x hx=>(own_lt3 Q7 hx).1)
    clear Q Q7 q7 gr7 ha7 pP pS pE bwd HX2 hc
    go_wp2
    go_roundw
    case rel=>exact ⟨i+1,by go_num,by omega,HN7,R9,pP7,pS7,pE7,bw7⟩
    case measure=>simp [intOf];omega
   ·have HX2:Hid (stlJ rows m Z k (i+1)=stlJ rows m Z k i):=by rw [Hid,HX.out,hdp];rfl
    have R9:Hid (V2.ownsRow w.heap.size 3 1 (.slice va vn vc) (stlJ rows m Z k (i+1)).length ((stlJ rows m Z k (i+1)).map (Value.int .i64))):=by rw [HX2.out];exact Q
    clear HX hdp kEx kD HX2 Q hc
    go_wp2
    go_roundw
    case rel=>exact ⟨i+1,by go_num,by omega,HNN,R9,pP,pS,pE,bwd⟩
    case measure=>simp [intOf];omega
  ·obtain rfl:i=n:=by omega
   have hnl:¬ ((i:Int)<(i:Int)):=by omega
   have HG:Hid (RowGotN (.returned (.slice va vn vc)) wr w.heap.size (stillM rows m Z (k:Int))):=by rw [← HSA.out];exact ⟨_,rfl,HNN.out,HQ.out⟩
   clear HQ pP pS pE
   go_wp2
   go_ret
   exact ⟨HG.out,bw⟩


def CanS (rows:List (List I3)) (f:Nat) (m:V4) (Z:List Int) (st:St7):Prop:=shapeOk m=true∧leftN rows m<f∧SlpOk rows m Z∧Z.length+3*f≤60∧st.2.2≤5000∧st.1.length≤6*st.2.2+1∧st.2.1≤st.2.2∧∀ x ∈ st.1,okB x=true
def LeftS (c:Nat) (r:St7 × Bool):Prop:=r.1.1.length+c≤6*r.1.2.2+1∧r.1.2.1≤r.1.2.2∧(∀ x ∈ r.1.1,okB x=true)∧(r.2=true→r.1.2.2≤5000)
theorem schL_left {rows:List (List I3)} {m:V4} {f:Nat} (hp:progOk rows=true) (hs:shapeOk m=true) (ih:∀ m Z st c,shapeOk m=true→st.1.length+c≤6*st.2.2+1→st.2.1≤st.2.2→(∀ x ∈ st.1,okB x=true)→st.2.2≤5000→LeftS c (schS rows f m Z st)) :
  ∀ (ks Z:List Int) (st:St7) (c:Nat),(∀ k ∈ ks,haltM rows m k=0)→st.1.length+2*ks.length+c≤6*st.2.2+1→st.2.1≤st.2.2→(∀ x ∈ st.1,okB x=true)→st.2.2≤5000→LeftS c (schL rows m (schS rows f) ks Z st)
 | [],Z,st,c,_,h1,h2,h3,h4=>⟨by simp only [schL];simp at h1;omega,h2,h3,fun _=>h4⟩
 | k::ks,Z,st,c,hk,h1,h2,h3,h4=>by
  have hk':∀ j ∈ ks,haltM rows m j=0:=fun j hj=>hk j (List.mem_cons_of_mem _ hj)
  have h0:=hk k (List.mem_cons_self ..)
  rw [List.length_cons] at h1
  by_cases hz:k ∈ Z
  ·rw [schL_skip hz]
   exact schL_left hp hs ih ks Z st c hk' (by omega) h2 h3 h4
  ·rw [schL_go hz]
   obtain ⟨f1,f2⟩:=foundM_ok hp hs h0
   have hm:=mergeB_len st.1 (foundM rows m k)
   obtain ⟨a1,a2,a3,a4⟩:=ih (goM rows m k).1 (stillM rows m Z k) (mergeB st.1 (foundM rows m k),st.2) (2*ks.length+c) (goM_shape hp hs h0) (by simp only;omega) h2 (mergeB_ok h3 f1) h4
   generalize schS rows f (goM rows m k).1 (stillM rows m Z k) (mergeB st.1 (foundM rows m k),st.2)=r at *
   obtain ⟨r,ok⟩:=r
   cases ok
   ·exact ⟨by simp only [Bool.false_eq_true,if_false];simp only at a1;omega,a2,a3,fun h=>by simp at h⟩
   ·simp only [if_true]
    exact schL_left hp hs ih ks _ r c hk' (by simp only at a1;omega) a2 a3 (a4 rfl)
theorem schS_left {rows:List (List I3)} (hp:progOk rows=true):∀ (f:Nat) (m:V4) (Z:List Int) (st:St7) (c:Nat),shapeOk m=true→st.1.length+c≤6*st.2.2+1→st.2.1≤st.2.2→(∀ x ∈ st.1,okB x=true)→st.2.2≤5000→LeftS c (schS rows f m Z st)
 | 0,_,_,st,c,_,h1,h2,h3,h4=>⟨h1,h2,h3,fun _=>h4⟩
 | f+1,m,Z,st,c,hs,h1,h2,h3,h4=>by
  rw [schS]
  split
  ·exact ⟨by simp only;omega,by simp only;omega,h3,fun h=>by simp at h⟩
  ·have b:=enab_le3 rows m
   refine schL_left hp hs (schS_left hp f) _ _ _ c (fun k hk=>enab_halt hk) (by simp only;omega) ?_ h3 (by simp only;omega)
   simp only;split<;>omega
def SchGot (e:Ending) (w':World) (B:Nat) (r:St7 × Bool):Prop:=∃ v,e=.returned (.tuple #[.agg #[v,.int .i64 r.1.2.1,.int .i64 r.1.2.2],.bool r.2])∧w'.ownsRow B 64 3 v r.1.1.length (flat r.1.1)
def SchC (rows:List (List I3)) (cap f:Nat):Prop:=∀ (m:V4) (Z:List Int) (st:St7),CanS rows f m Z st→∀ (w:World) (a9:Option Addr) (cs:Sl × Sl × Sl) (s:S4) (sv:Value) (B B2:Nat) (bv:Value),RowsAt w a9 cs rows→Vmem w s m→sv≠.slice none 0 0→w.ownsRow B2 3 1 sv Z.length (Z.map (Value.int .i64))→w.ownsRow B 64 3 bv st.1.length (flat st.1)→B≤w.heap.size →
  Calls Tryz.prog 153 #[.agg #[.slice a9 3 cap],s.val,sv,.agg #[bv,.int .i64 st.2.1,.int .i64 st.2.2]] w fun e w'=>SchGot e w' B (schS rows f m Z st)∧Below w.heap.size w w'
structure OnS7 (rows:List (List I3)) (w wr:World) (a9:Option Addr) (cap f B:Nat) (s:S4) (m:V4) (bvi svi:Value) (sl:Sl) (R:St7 × Bool) (i:Nat) (Zi:List Int) (st:St7):Prop where
 eq:schL rows m (schS rows f) ((enabM rows m 3).drop i) Zi st=R
 ok:SlpOk rows m Zi
 zl:Zi.length+((enabM rows m 3).length - i)+3*f≤60
 nd:st.2.2≤5000
 bl4:st.1.length+2*((enabM rows m 3).length - i)≤6*st.2.2+1
 rl:st.2.1≤st.2.2
 bo:∀ x ∈ st.1,okB x=true
 pp:Blk wr w.heap.size 25 [.slice a9 3 cap]
 ps:Blk wr (w.heap.size+1) 33 [.slice s.1.1 s.1.2.1 s.1.2.2,.slice s.2.1.1 s.2.1.2.1 s.2.1.2.2,.slice s.2.2.1.1 s.2.2.1.2.1 s.2.2.1.2.2,.slice s.2.2.2.1 s.2.2.2.2.1 s.2.2.2.2.2]
 bx:Blk wr (w.heap.size+1+1) 70 [bvi,.int .i64 st.2.1,.int .i64 st.2.2]
 rx:Blk wr (w.heap.size+1+1+1) 70 [.slice none 0 0,.int .i64 0,.int .i64 0]
 br:wr.ownsRow B 64 3 bvi st.1.length (flat st.1)
 ls:OwnI wr w.heap.size sl (enabM rows m 3)
 zr:wr.ownsRow w.heap.size 3 1 svi Zi.length (Zi.map (Value.int .i64))
 az:Ap3 (.slice sl.1 sl.2.1 sl.2.2) svi
 bl:Below w.heap.size w wr
theorem OnS7.skip {rows:List (List I3)} {w wr:World} {a9:Option Addr} {cap f B:Nat} {s:S4} {m:V4} {bvi svi:Value} {sl:Sl} {R:St7 × Bool} {i:Nat} {Zi:List Int} {st:St7} {k:Int} (h:OnS7 rows w wr a9 cap f B s m bvi svi sl R i Zi st) (hd:(enabM rows m 3).drop i=k::(enabM rows m 3).drop (i+1)) (hk:k ∈ Zi) (hi:i<(enabM rows m 3).length):OnS7 rows w wr a9 cap f B s m bvi svi sl R (i+1) Zi st:=by
 obtain ⟨e1,e2,e3,e4,e5,e6,e7,e8,e9,e10,e11,e12,e13,e14,e15,e16⟩:=h
 refine ⟨?_,e2,by omega,e4,by omega,e6,e7,e8,e9,e10,e11,e12,e13,e14,e15,e16⟩
 rw [hd,schL_skip hk] at e1;exact e1
theorem own_len8 {w:World} {B e s n:Nat} {a:Option Addr} {k c:Nat} {xs:List Value} (h:w.ownsRow B e s (.slice a k c) n xs):k=n:=by
 rcases h.2 with ⟨h1,h2⟩ | ⟨gq,cq,cur,h1,_⟩
 ·cases h1;exact h2.symm
 ·cases h1;rfl
theorem slp_snoc8 {rows:List (List I3)} {m:V4} {Z:List Int} {k:Nat} (h:SlpOk rows m Z) (hk:k<3) (hd:doneM rows m k=false):SlpOk rows m (Z++[(k:Int)]):=fun j hj=>by
 rcases List.mem_append.1 hj with hj | hj
 ·exact h j hj
 ·rw [List.mem_singleton] at hj
  exact ⟨k,hj,hk,hd⟩
theorem still_ok8 {rows:List (List I3)} {m:V4} {Z:List Int} {k:Nat} (h:SlpOk rows m Z):SlpOk rows (goM rows m (k:Int)).1 (stillM rows m Z (k:Int)):=fun j hj=>by
 obtain ⟨h1,h2⟩:=List.mem_filter.1 hj
 obtain ⟨q,rfl,h3,hd⟩:=h j h1
 refine ⟨q,rfl,h3,?_⟩
 rw [Int.toNat_natCast,Int.toNat_natCast] at h2
 have hne:=(dep_clash (rows:=rows) (m:=m) (k:=k) (l:=q) (by simpa using h2)).1
 rw [goM_natC,done_other hne]
 exact hd
theorem row_news {W:World} {B g n c:Nat} {Z:List Int} (h:W.ownsRow B 3 1 (.slice (some ⟨g,0,none⟩) n c) n (Z.map (Value.int .i64))):∀ j u,(Z.map (Value.int .i64))[j]?=some u→W.cell? ((⟨g,0,none⟩:Addr).add j)=some u:=fun j u hj=>by
 have hl:=(List.getElem?_eq_some_iff.1 hj).1
 have h1:=h.1
 have h4:=h.cellAt j (by omega)
 rw [hj] at h4
 by_cases e0:j=0
 ·subst e0;simpa [Addr.add] using h4
 ·simpa [Addr.add,e0] using h4
theorem OwnV.neE9 {w w':World} {b g:Nat} {s:S4} {m:V4} {cs:List Value} (h:OwnV w b s m) (hg:w.grownBy w' (some g)) (hB:Blk w g 70 cs):OwnV w' b s m:=
 ⟨⟨World.ownsRow.kept h.1.1 hg (.inr (own_ne_blk9 h.1.1 hB (by decide))),World.ownsRow.kept h.1.2.1 hg (.inr (own_ne_blk9 h.1.2.1 hB (by decide))),World.ownsRow.kept h.1.2.2.1 hg (.inr (own_ne_blk9 h.1.2.2.1 hB (by decide))),World.ownsRow.kept h.1.2.2.2 hg (.inr (own_ne_blk9 h.1.2.2.2 hB (by decide)))⟩,h.2⟩

theorem search_step {rows:List (List I3)} {cap:Nat} (hp:progOk rows=true) {f:Nat} (ih:SchC rows cap f):SchC rows cap (f+1):=by
 intro m Z st hcan w a9 cs s sv B B2 bv hR h hnn hL qB hBw
 obtain ⟨hs,hf,hZ,hZl,hnd,hB4,hR9,hbo⟩:=hcan
 obtain ⟨i1,hi1,hy0,hy1,hy2⟩:=info_parts info_int
 obtain ⟨zg,zc,rfl⟩:∃ zg zc,sv=.slice (some ⟨zg,0,none⟩) Z.length zc:=by
  rcases hL.2 with ⟨h1,_⟩ | ⟨g,c9,cur,h1,_⟩
  ·exact absurd h1 hnn
  ·exact ⟨g,c9,h1⟩
 clear hnn
 obtain ⟨R,hR0⟩:∃ R,R=schS rows (f+1) m Z st:=⟨_,rfl⟩
 rw [← hR0]
 rw [schS] at hR0
 obtain ⟨bs,rn,nd⟩:=st
 simp only at qB hnd hB4 hR9 hR0 hbo
 have HR:Hid (R=if 5000<nd+1 then ((bs,rn,nd+1),false) else schL rows m (schS rows f) (enabM rows m 3) Z (bs,rn+(if enabM rows m 3=[] then 1 else 0),nd+1)):=hR0
 clear hR0
 obtain ⟨ba,bn,bc,rfl⟩:=own_slice6 qB
 obtain ⟨⟨t0a,t0n,t0c⟩,⟨t1a,t1n,t1c⟩,⟨t2a,t2n,t2c⟩,⟨t3a,t3n,t3c⟩⟩:=s
 have ut:S4.val ((t0a,t0n,t0c),(t1a,t1n,t1c),(t2a,t2n,t2c),(t3a,t3n,t3c))=.agg #[.slice t0a t0n t0c,.slice t1a t1n t1c,.slice t2a t2n t2c,.slice t3a t3n t3c]:=rfl
 have kE:=fun (W:World) (b:Below w.heap.size w W)=>l03Enabled_is a9 3 cap rows ((t0a,t0n,t0c),(t1a,t1n,t1c),(t2a,t2n,t2c),(t3a,t3n,t3c)) m cs W rfl (hR.below b) (h.below b) hp hs
 rw [ut] at kE ⊢
 have hw2:IntKind.i64.wrap ((nd:Int)+1)=(nd:Int)+1:=IntWalk.i64_in _ ⟨by omega,by omega⟩
 have bw:Below w.heap.size w ((((w.alloc (.cells #[.slice a9 3 cap] 25)).alloc (.cells #[.slice t0a t0n t0c,.slice t1a t1n t1c,.slice t2a t2n t2c,.slice t3a t3n t3c] 33)).alloc (.cells #[.slice ba bn bc,.int .i64 (rn:Int),.int .i64 ((nd:Int)+1)] 70)).alloc (.cells #[.slice none 0 0,.int .i64 0,.int .i64 0] 70)):=by go_grown
 have pP:Blk ((((w.alloc (.cells #[.slice a9 3 cap] 25)).alloc (.cells #[.slice t0a t0n t0c,.slice t1a t1n t1c,.slice t2a t2n t2c,.slice t3a t3n t3c] 33)).alloc (.cells #[.slice ba bn bc,.int .i64 (rn:Int),.int .i64 ((nd:Int)+1)] 70)).alloc (.cells #[.slice none 0 0,.int .i64 0,.int .i64 0] 70)) w.heap.size 25 [.slice a9 3 cap]:=blkOld _ (blkOld _ (blkOld _ (blkAt _ _ _ rfl)))
 have pS:Blk ((((w.alloc (.cells #[.slice a9 3 cap] 25)).alloc (.cells #[.slice t0a t0n t0c,.slice t1a t1n t1c,.slice t2a t2n t2c,.slice t3a t3n t3c] 33)).alloc (.cells #[.slice ba bn bc,.int .i64 (rn:Int),.int .i64 ((nd:Int)+1)] 70)).alloc (.cells #[.slice none 0 0,.int .i64 0,.int .i64 0] 70)) (w.heap.size+1) 33 [.slice t0a t0n t0c,.slice t1a t1n t1c,.slice t2a t2n t2c,.slice t3a t3n t3c]:=blkOld _ (blkOld _ (blkAt _ _ _ (by simp)))
 have pX:Blk ((((w.alloc (.cells #[.slice a9 3 cap] 25)).alloc (.cells #[.slice t0a t0n t0c,.slice t1a t1n t1c,.slice t2a t2n t2c,.slice t3a t3n t3c] 33)).alloc (.cells #[.slice ba bn bc,.int .i64 (rn:Int),.int .i64 ((nd:Int)+1)] 70)).alloc (.cells #[.slice none 0 0,.int .i64 0,.int .i64 0] 70)) (w.heap.size+1+1) 70 [.slice ba bn bc,.int .i64 (rn:Int),.int .i64 ((nd:Int)+1)]:=blkOld _ (blkAt _ _ _ (by simp))
 have pR:Blk ((((w.alloc (.cells #[.slice a9 3 cap] 25)).alloc (.cells #[.slice t0a t0n t0c,.slice t1a t1n t1c,.slice t2a t2n t2c,.slice t3a t3n t3c] 33)).alloc (.cells #[.slice ba bn bc,.int .i64 (rn:Int),.int .i64 ((nd:Int)+1)] 70)).alloc (.cells #[.slice none 0 0,.int .i64 0,.int .i64 0] 70)) (w.heap.size+1+1+1) 70 [.slice none 0 0,.int .i64 0,.int .i64 0]:=blkAt _ _ _ (by simp)
 by_cases h5:5000<nd+1
 ·have HR2:Hid (R=((bs,rn,nd+1),false)):=by rw [Hid,HR.out,if_pos h5]
  have h5':5000<(nd:Int)+1:=by omega
  have q1:=owns_below qB bw
  have hRl:=pR.lt
  clear HR kE
  go_enter Tryz.func153,Tryz.ntmps153
  go_wp2_with (first | refine wpList_load_blk rfl 70 _ rfl (w.heap.size+1+1) rfl pX _ Tryz.underlying70 rfl (by kernel_rfl) ?_ | refine wpList_store_blk rfl 70 _ _ rfl (w.heap.size+1+1+1) [.slice ba bn bc,.int .i64 (rn:Int),.int .i64 ((nd:Int)+1)] rfl rfl pR (by kernel_rfl) rfl rfl ?_)
  intro W2 pR2 g2
  have b2:=bw.grown g2 bw.size (fun q e=>by cases e;omega)
  have q2:=q1.kept g2 (.inr (own_ne_blk9 q1 pR (by decide)))
  go_wp2_with fail
  refine bodyPost_ret (results_blk2 Tryz.results153 _ _ _ _ _ _ rfl pR2.out Tryz.underlying70 rfl (by kernel_rfl)) rfl ?_
  refine ⟨?_,b2⟩
  rw [HR2.out]
  exact ⟨.slice ba bn bc,by simp only [Int.natCast_add];rfl,q2⟩
 have HR2:Hid (R=schL rows m (schS rows f) (enabM rows m 3) Z (bs,rn+(if enabM rows m 3=[] then 1 else 0),nd+1)):=by rw [Hid,HR.out,if_neg h5]
 have h5':¬ (5000<(nd:Int)+1):=by omega
 have q1:=owns_below qB bw
 have kEx:=kE ((((w.alloc (.cells #[.slice a9 3 cap] 25)).alloc (.cells #[.slice t0a t0n t0c,.slice t1a t1n t1c,.slice t2a t2n t2c,.slice t3a t3n t3c] 33)).alloc (.cells #[.slice ba bn bc,.int .i64 (rn:Int),.int .i64 ((nd:Int)+1)] 70)).alloc (.cells #[.slice none 0 0,.int .i64 0,.int .i64 0] 70)) bw
 clear HR kE qB
 go_enter Tryz.func153,Tryz.ntmps153
 go_wp2_with (first | refine wpList_load_blk rfl 25 _ rfl w.heap.size rfl pP _ Tryz.underlying25 rfl (by kernel_rfl) ?_ | refine wpList_load_blk rfl 33 _ rfl (w.heap.size+1) rfl pS _ Tryz.underlying33 rfl (by kernel_rfl) ?_)
 generalize ((((w.alloc (.cells #[.slice a9 3 cap] 25)).alloc (.cells #[.slice t0a t0n t0c,.slice t1a t1n t1c,.slice t2a t2n t2c,.slice t3a t3n t3c] 33)).alloc (.cells #[.slice ba bn bc,.int .i64 (rn:Int),.int .i64 ((nd:Int)+1)] 70)).alloc (.cells #[.slice none 0 0,.int .i64 0,.int .i64 0] 70))=w1 at *
 refine kEx.mono ?_
 rintro e w2 ⟨⟨⟨ea,en,ec⟩,rfl,hE⟩,hb⟩
 have hLn:(enabM rows m 3).length=en:=by have:=hE.1;simpa using this
 have hn3:en≤3:=by rw [← hLn];exact enabM_len rows m 3
 have hE2:OwnI w2 w.heap.size (ea,en,ec) (enabM rows m 3):=own_lowerB hE bw.size
 replace pP:=pP.below hb
 replace pS:=pS.below hb
 replace pX:=pX.below hb
 replace pR:=pR.below hb
 replace q1:=owns_below q1 hb
 replace bw:=bel_trans bw hb
 have bw9:=bw
 clear hb kEx hE hw2
 by_cases hEm:enabM rows m 3=[]
 ·obtain rfl:en=0:=by rw [hEm] at hLn;simpa using hLn.symm
  have HR3:Hid (R=((bs,rn+1,nd+1),true)):=by rw [Hid,HR2.out,hEm];simp [schL]
  have cX1:w2.cell? ⟨(w.heap.size+1+1),1,none⟩=some (.int .i64 (rn:Int)):=by simpa using pX.cell 1
  have fX1:=pX.frozen 1
  have hw1:IntKind.i64.wrap ((rn:Int)+1)=(rn:Int)+1:=IntWalk.i64_in _ ⟨by omega,by omega⟩
  have gX:=grown_cell w2 (w.heap.size+1+1) 1 (.int .i64 ((rn:Int)+1))
  have pX2:Blk (w2.setCell ⟨(w.heap.size+1+1),1,none⟩ (.int .i64 ((rn:Int)+1))) (w.heap.size+1+1) 70 [.slice ba bn bc,.int .i64 ((rn:Int)+1),.int .i64 ((nd:Int)+1)]:=pX.set 1 (.int .i64 ((rn:Int)+1))
  have hLx:=(owns_below hL bw9).kept gX (.inr (own_ne_blk9 (owns_below hL bw9) pX (by decide)))
  replace hE2:OwnI (w2.setCell ⟨(w.heap.size+1+1),1,none⟩ (.int .i64 ((rn:Int)+1))) w.heap.size (ea,0,ec) (enabM rows m 3):=World.ownsRow.kept hE2 gX (.inr (own_ne_blk9 hE2 pX (by decide)))
  replace pP:=pP.kept gX (by simp only [ne_eq,Option.some.injEq];omega)
  replace pS:=pS.kept gX (by simp only [ne_eq,Option.some.injEq];omega)
  replace pR:=pR.kept gX (by simp only [ne_eq,Option.some.injEq];omega)
  replace q1:=q1.kept gX (.inr (own_ne_blk9 q1 pX (by decide)))
  replace bw:=bw.grown gX bw.size (fun q e=>by cases e;omega)
  replace pX:=pX2
  clear pX2 gX HR2 bw9 hL
  obtain ⟨w3,hw3⟩:∃ w3,w3=(w2.setCell ⟨(w.heap.size+1+1),1,none⟩ (.int .i64 ((rn:Int)+1))):=⟨_,rfl⟩
  have HW3:Hid (w3=(w2.setCell ⟨(w.heap.size+1+1),1,none⟩ (.int .i64 ((rn:Int)+1)))):=hw3
  have HZ3:Hid (w2.heap.size=w3.heap.size):=by rw [Hid,hw3];simp
  rw [← hw3] at pX hLx hE2 pP pS pR q1 bw
  clear hw3
  have q0:=own_emptyB w3 3 1 w.heap.size bw.size
  have ha:Below w3.heap.size w3 (w3.alloc (.cells #[] 3)):=by go_grown
  have hsz9:(w3.alloc (.cells #[] 3)).heap.size=w3.heap.size+1:=by simp
  have HNW:Hid (∀ j u,(Z.map (Value.int .i64))[j]?=some u→(w3.alloc (.cells #[] 3)).cell? ((⟨zg,0,none⟩:Addr).add j)=some u):=row_news ((owns_below (hLx) ha))
  have apE:=Ap3.fresh hE2 (own_emptyB w3 3 1 w3.heap.size (Nat.le_refl _)) (Nat.le_refl _)
  have hbz:=bw.size
  go_wp2_with (at_builtin;(try rw [← HW3.out]);(try rw [HZ3.out]);refine wpList_append_own_at _ rfl _ _ 27 rfl w.heap.size 3 i1 (.int .i64 0) 1 8 Tryz.underlying27 hi1 hy0 hy1 hy2 rfl (by decide) _ _ _ rfl q0 ⟨zg,0,none⟩ Z.length zc (Z.map (Value.int .i64)) rfl (by rw [List.length_map];omega) HNW.out (fun v hv=>by obtain ⟨z,_,rfl⟩:=List.mem_map.1 hv;rfl) ?c3 ?c4 ?c5 ?_)
  case c3=>unfold maxLen;omega
  case c4=>omega
  case c5=>first | (simp;omega) | omega
  intro sv1 w4 zr gr _ at4
  have q09:=q0
  try rw [Nat.zero_add,List.nil_append] at zr
  replace pP:=(pP.below ha).kept gr (own_ne_blk9 q0 (pP.below ha) (by decide))
  replace pS:=(pS.below ha).kept gr (own_ne_blk9 q0 (pS.below ha) (by decide))
  replace pX:=(pX.below ha).kept gr (own_ne_blk9 q0 (pX.below ha) (by decide))
  replace pR:=(pR.below ha).kept gr (own_ne_blk9 q0 (pR.below ha) (by decide))
  replace q1:=(owns_below q1 ha).kept gr (Ap3.types (owns_below q1 ha) q0 (by decide)).or
  have az:Ap3 (.slice ea 0 ec) sv1:=Ap3.moved (OwnI.below hE2 ha) apE (by first | exact at4 | (rw [World.size_alloc];exact at4))
  have ls:OwnI w4 w.heap.size (ea,0,ec) (enabM rows m 3):=World.ownsRow.kept (OwnI.below hE2 ha) gr apE.or
  replace bw:=(bel_trans bw ha).grown gr (bel_trans bw ha).size (fun q hq=>(own_lt3 q0 hq).1)
  clear gr at4 q09 HNW apE hE2 ha q0 hsz9 hLx
  obtain ⟨ya0,yn0,yc0,rfl⟩:=own_slice6 zr
  clear cX1 fX1 hw1 HW3 HZ3
  have hRl:=pR.lt
  clear ls az zr pP pS hEm hLn
  go_wp2_with fail
  go_loopw [11] (fun s11 wr=>s11=.int .i64 0∧w4=wr) (fun _ _=>0)
  case atStart=>exact ⟨rfl,rfl⟩
  case round =>
   obtain ⟨rfl,rfl⟩:=hrel
   go_wp2_with (first | refine wpList_load_blk rfl 70 _ rfl (w.heap.size+1+1) rfl pX _ Tryz.underlying70 rfl (by kernel_rfl) ?_ | refine wpList_store_blk rfl 70 _ _ rfl (w.heap.size+1+1+1) [.slice ba bn bc,.int .i64 ((rn:Int)+1),.int .i64 ((nd:Int)+1)] rfl rfl pR (by kernel_rfl) rfl rfl ?_)
   intro W5 pR5 g5
   have b5:=bw.grown g5 bw.size (fun q e=>by cases e;omega)
   have q5:=q1.kept g5 (.inr (own_ne_blk9 q1 pR (by decide)))
   go_wp2_with fail
   refine bodyPost_ret (results_blk2 Tryz.results153 _ _ _ _ _ _ rfl pR5.out Tryz.underlying70 rfl (by kernel_rfl)) rfl ?_
   refine ⟨?_,b5⟩
   rw [HR3.out]
   exact ⟨.slice ba bn bc,by simp only [Int.natCast_add];rfl,q5⟩
 ·have hen0:((en:Int) == 0)=false:=by simp;intro e;exact hEm (List.eq_nil_of_length_eq_zero (by omega))
  have hLx:=owns_below hL bw9
  clear hL bw9
  have q0:=own_emptyB w2 3 1 w.heap.size bw.size
  have ha:Below w2.heap.size w2 (w2.alloc (.cells #[] 3)):=by go_grown
  have hsz9:(w2.alloc (.cells #[] 3)).heap.size=w2.heap.size+1:=by simp
  have HNW:Hid (∀ j u,(Z.map (Value.int .i64))[j]?=some u→(w2.alloc (.cells #[] 3)).cell? ((⟨zg,0,none⟩:Addr).add j)=some u):=row_news ((owns_below (hLx) ha))
  have apE:=Ap3.fresh hE2 (own_emptyB w2 3 1 w2.heap.size (Nat.le_refl _)) (Nat.le_refl _)
  have hbz:=bw.size
  go_wp2_with (at_builtin;refine wpList_append_own_at _ rfl _ _ 27 rfl w.heap.size 3 i1 (.int .i64 0) 1 8 Tryz.underlying27 hi1 hy0 hy1 hy2 rfl (by decide) _ _ _ rfl q0 ⟨zg,0,none⟩ Z.length zc (Z.map (Value.int .i64)) rfl (by rw [List.length_map];omega) HNW.out (fun v hv=>by obtain ⟨z,_,rfl⟩:=List.mem_map.1 hv;rfl) ?c3 ?c4 ?c5 ?_)
  case c3=>unfold maxLen;omega
  case c4=>omega
  case c5=>first | (simp;omega) | omega
  intro sv1 w4 zr gr _ at4
  have q09:=q0
  try rw [Nat.zero_add,List.nil_append] at zr
  replace pP:=(pP.below ha).kept gr (own_ne_blk9 q0 (pP.below ha) (by decide))
  replace pS:=(pS.below ha).kept gr (own_ne_blk9 q0 (pS.below ha) (by decide))
  replace pX:=(pX.below ha).kept gr (own_ne_blk9 q0 (pX.below ha) (by decide))
  replace pR:=(pR.below ha).kept gr (own_ne_blk9 q0 (pR.below ha) (by decide))
  replace q1:=(owns_below q1 ha).kept gr (Ap3.types (owns_below q1 ha) q0 (by decide)).or
  have az:Ap3 (.slice ea en ec) sv1:=Ap3.moved (OwnI.below hE2 ha) apE (by first | exact at4 | (rw [World.size_alloc];exact at4))
  have ls:OwnI w4 w.heap.size (ea,en,ec) (enabM rows m 3):=World.ownsRow.kept (OwnI.below hE2 ha) gr apE.or
  replace bw:=(bel_trans bw ha).grown gr (bel_trans bw ha).size (fun q hq=>(own_lt3 q0 hq).1)
  clear gr at4 q09 HNW apE hE2 ha q0 hsz9 hLx
  obtain ⟨ya0,yn0,yc0,rfl⟩:=own_slice6 zr
  have st0:OnS7 rows w w4 a9 cap f B ((t0a,t0n,t0c),(t1a,t1n,t1c),(t2a,t2n,t2c),(t3a,t3n,t3c)) m (.slice ba bn bc) (.slice ya0 yn0 yc0) (ea,en,ec) R 0 Z (bs,rn,nd+1):=by
   refine ⟨?_,hZ,by omega,by simp only;omega,by simp only;omega,by simp only;omega,hbo,pP,pS,by simpa using pX,pR,q1,ls,zr,az,bw⟩
   rw [HR2.out,if_neg hEm]
   simp
  clear HR2 pP pS pX pR q1 ls zr az bw hZ hZl hB4 hR9 hbo hnd
  go_wp2_with fail
  go_loopw [2,11] (fun s2 s11 wr=>∃ (i:Nat) (Zi:List Int) (sti:St7) (bvi:Value),s11=.int .i64 i∧i≤en∧OnS7 rows w wr a9 cap f B ((t0a,t0n,t0c),(t1a,t1n,t1c),(t2a,t2n,t2c),(t3a,t3n,t3c)) m bvi s2 (ea,en,ec) R i Zi sti) (fun _ s11 _=>en - (intOf s11).toNat)
  case atStart=>exact ⟨0,Z,_,_,rfl,Nat.zero_le _,st0⟩
  case round =>
   clear st0
   obtain ⟨i,Zi,sti,bvi,rfl,hin,hO⟩:=hrel
   obtain ⟨ya,yn,yc,rfl⟩:=own_slice6 hO.zr
   obtain ⟨va,vc,rfl,hIv,hGv⟩:=bugs_sliceR hO.br (fun x hx=>okB_fitsQ (hO.bo x hx))
   by_cases hlt:i<en
   ·have hkj:(enabM rows m 3)[i]?=some ((enabM rows m 3).getD i 0):=by rw [List.getD,List.getElem?_eq_getElem (by omega)];rfl
    have hdr9:(enabM rows m 3).drop i=(enabM rows m 3).getD i 0::(enabM rows m 3).drop (i+1):=by rw [List.drop_eq_getElem_cons (by omega)];simp [List.getD,show i<(enabM rows m 3).length by omega]
    have hz:=enab_halt (List.mem_of_getElem? hkj)
    obtain ⟨h0k,h2k,hd,_⟩:=halt_can hz
    obtain ⟨k,hk⟩:∃ k:Nat,(enabM rows m 3).getD i 0=(k:Int):=⟨_,(Int.toNat_of_nonneg h0k).symm⟩
    obtain ⟨lb,lo,rfl,hc,hlb⟩:=ints_cellS hO.ls.ints (show i<en from hlt)
    rw [hk] at hkj hz hd h0k h2k hc hdr9
    rw [Int.toNat_natCast] at hd
    have hk3:k<3:=by omega
    clear hk hlb hkj
    obtain rfl:yn=Zi.length:=own_len8 hO.zr
    have hzi:Ints .i64 wr ya Zi.length yc Zi:=OwnI.ints (s:=(ya,Zi.length,yc)) hO.zr
    have hzl:=hO.zl
    have kC:=l07In_is ya Zi.length yc Zi (k:Int) wr hzi (by omega)
    have hlt3:(i:Int)<(en:Int):=by omega
    have hi0:(0:Int)≤(i:Int):=by omega
    have HDR:Hid ((enabM rows m 3).drop i=(k:Int)::(enabM rows m 3).drop (i+1)):=hdr9
    clear hdr9 hzi
    by_cases hmem:(k:Int) ∈ Zi
    ·have st9:=hO.skip HDR.out hmem (by omega)
     rw [show decide ((k:Int) ∈ Zi)=true by simp [hmem]] at kC
     clear hO hmem HDR hz hd hIv hGv
     go_wp2_with fail
     refine kC.mono ?_
     rintro e w9 ⟨rfl,rfl⟩
     clear kC hc
     go_wp2
     go_roundw
     case rel=>exact ⟨i+1,Zi,sti,_,by go_num,by omega,st9⟩
     case measure=>simp [intOf];omega
    ·rw [show decide ((k:Int) ∈ Zi)=false by simp [hmem]] at kC
     have hx:=goM_shape hp hs hz
     have hlf:=left_step hp hs hz
     have hfo:=foundM_ok hp hs hz
     have kP:=fun (W:World) (b:Below w.heap.size w W)=>l04Found_is (cap:=cap) (hR.below b) (h.below b) hp hs hk3 hd
     rw [ut] at kP
     have kA:=fun (W:World) (b:Below w.heap.size w W) (hL:Ints .i64 W ya Zi.length yc Zi)=>l07Still_is (cap:=cap) (hR.below b) (h.below b) hp hs hk3 hd ya Zi.length yc Zi hL (by omega) hO.ok
     rw [ut] at kA
     have hzs:=still_ok8 (rows:=rows) (m:=m) (k:=k) hO.ok
     have hzl2:(stillM rows m Zi (k:Int)).length≤Zi.length:=List.length_filter_le _ _
     have hnd9:=hO.nd
     have hb4:=hO.bl4
     have hrl:=hO.rl
     have hml:=mergeB_len sti.1 (foundM rows m (k:Int))
     have hmo:=mergeB_ok hO.bo hfo.1
     have hcan:CanS rows f (goM rows m (k:Int)).1 (stillM rows m Zi (k:Int)) (mergeB sti.1 (foundM rows m (k:Int)),sti.2):=⟨hx,by omega,hzs,by omega,hnd9,by simp only;omega,hrl,hmo⟩
     have hss:=schS_left hp f (goM rows m (k:Int)).1 (stillM rows m Zi (k:Int)) (mergeB sti.1 (foundM rows m (k:Int)),sti.2) (2*((enabM rows m 3).length - (i+1))) hx (by simp only;omega) hrl hmo hnd9
     have kV:=fun (W:World)=>ih _ _ _ hcan W a9 cs
     have fzz:=(shape_fits9 hx).1
     have HEQ:Hid (R=if (schS rows f (goM rows m (k:Int)).1 (stillM rows m Zi (k:Int)) (mergeB sti.1 (foundM rows m (k:Int)),sti.2)).2 then schL rows m (schS rows f) ((enabM rows m 3).drop (i+1)) (Zi++[(k:Int)]) (schS rows f (goM rows m (k:Int)).1 (stillM rows m Zi (k:Int)) (mergeB sti.1 (foundM rows m (k:Int)),sti.2)).1 else ((schS rows f (goM rows m (k:Int)).1 (stillM rows m Zi (k:Int)) (mergeB sti.1 (foundM rows m (k:Int)),sti.2)).1,false)):=by
      have h9:=hO.eq
      rw [HDR.out,schL_go hmem] at h9
      exact h9.symm
     have hboi:=hO.bo
     have hok2:=slp_snoc8 hO.ok hk3 hd
     have hbl:sti.1.length≤40000:=by omega
     generalize schS rows f (goM rows m (k:Int)).1 (stillM rows m Zi (k:Int)) (mergeB sti.1 (foundM rows m (k:Int)),sti.2)=rr at *
     have HOK:Hid (SlpOk rows m (Zi++[(k:Int)])):=hok2
     have HLF:Hid (LeftS (2*((enabM rows m 3).length - (i+1))) rr):=hss
     clear hcan hss hok2 hzs hx hlf hmem HDR hmo
     generalize stillM rows m Zi (k:Int)=Zs at *
     generalize (goM rows m (k:Int)).1=z at *
     generalize foundM rows m (k:Int)=fs at *
     obtain ⟨⟨rb,rr1,rr2⟩,rok⟩:=rr
     simp only at kV HEQ
     clear hz hd hml
     go_wp2_with fail
     refine kC.mono ?_
     rintro e w9 ⟨rfl,rfl⟩
     clear kC hc
     have pP:=hO.pp
     have pS:=hO.ps
     have pX:=hO.bx
     have pR:=hO.rx
     have br:=hO.br
     have ls:=hO.ls
     have zr:=hO.zr
     have az:=hO.az
     have bl:=hO.bl
     clear hO
     simp only at pS
     have kPx:=kP wr bl
     go_wp2_with (first | refine wpList_load_blk rfl 25 _ rfl w.heap.size rfl pP _ Tryz.underlying25 rfl (by kernel_rfl) ?_ | refine wpList_load_blk rfl 33 _ rfl (w.heap.size+1) rfl pS _ Tryz.underlying33 rfl (by kernel_rfl) ?_)
     refine kPx.mono ?_
     rintro e u1 ⟨⟨⟨⟨z0a,z0n,z0c⟩,⟨z1a,z1n,z1c⟩,⟨z2a,z2n,z2c⟩,⟨z3a,z3n,z3c⟩⟩,v9,rfl,hO2,qf⟩,hb⟩
     have uz:S4.val ((z0a,z0n,z0c),(z1a,z1n,z1c),(z2a,z2n,z2c),(z3a,z3n,z3c))=.agg #[.slice z0a z0n z0c,.slice z1a z1n z1c,.slice z2a z2n z2c,.slice z3a z3n z3c]:=rfl
     rw [uz]
     clear kPx kP
     obtain ⟨fa,fc,rfl,hI9,hGd9⟩:=bugs_sliceR qf (fun x hx=>okB_fitsQ (hfo.1 x hx))
     clear hGd9 hI9
     replace pP:=pP.below hb
     replace pS:=pS.below hb
     replace pX:=pX.below hb
     replace pR:=pR.below hb
     replace br:=owns_below br hb
     replace ls:OwnI _ w.heap.size (some ⟨lb,lo,none⟩,en,ec) (enabM rows m 3):=OwnI.below ls hb
     replace zr:=owns_below zr hb
     replace bl:=bel_trans bl hb
     clear hb
     have pN:=Blk.new u1 33 [.slice none 0 0,.slice none 0 0,.slice none 0 0,.slice none 0 0]
     have ha:Below u1.heap.size u1 (u1.alloc (.cells #[.slice none 0 0,.slice none 0 0,.slice none 0 0,.slice none 0 0] 33)):=by go_grown
     go_wp2_with (refine wpList_store_blk rfl 33 _ _ rfl u1.heap.size [.slice z0a z0n z0c,.slice z1a z1n z1c,.slice z2a z2n z2c,.slice z3a z3n z3c] rfl rfl pN (by kernel_rfl) rfl rfl ?_)
     intro u2 p2 g2
     have pG:=p2.out
     have hb:Below u1.heap.size u1 u2:=ha.grown g2 ha.size (fun q e=>by cases e;exact Nat.le_refl _)
     replace hO2:=hO2.below hb
     replace qf:=owns_below qf hb
     replace pP:=pP.below hb
     replace pS:=pS.below hb
     replace pX:=pX.below hb
     replace pR:=pR.below hb
     replace br:=owns_below br hb
     replace ls:OwnI _ w.heap.size (some ⟨lb,lo,none⟩,en,ec) (enabM rows m 3):=OwnI.below ls hb
     replace zr:=owns_below zr hb
     replace bl:=bel_trans bl hb
     clear hb ha g2 p2 pN
     generalize u1.heap.size=G at *
     obtain ⟨va9,vc9,ev9,hIv2,hGv2⟩:=bugs_sliceR br (fun x hx=>okB_fitsQ (hboi x hx))
     cases ev9
     obtain ⟨fa9,fc9,ef9,hI8,hGd8⟩:=bugs_sliceR qf (fun x hx=>okB_fitsQ (hfo.1 x hx))
     cases ef9
     have kM:=l04Merge_is va sti.1.length vc sti.1 fa fs.length fc fs u2 hIv2 hI8 (by omega) (by have:=hfo.2;omega)
     clear hIv hGv hIv2 hGv2 hI8 hGd8 qf
     have cX0:u2.cell? ⟨(w.heap.size+1+1),0,none⟩=some (.slice va sti.1.length vc):=by simpa using pX.cell 0
     go_wp2_with fail
     refine kM.mono ?_
     rintro e u3 ⟨⟨v6,rfl,q6⟩,hb⟩
     have hBl:B≤u2.heap.size:=by have:=bl.size;omega
     replace q6:=own_lowerB (B':=B) q6 hBl
     replace hO2:=hO2.below hb
     replace pG:=pG.below hb
     replace pP:=pP.below hb
     replace pS:=pS.below hb
     replace pX:=pX.below hb
     replace pR:=pR.below hb
     replace br:=owns_below br hb
     replace ls:OwnI _ w.heap.size (some ⟨lb,lo,none⟩,en,ec) (enabM rows m 3):=OwnI.below ls hb
     replace zr:=owns_below zr hb
     replace bl:=bel_trans bl hb
     clear hb kM cX0 hBl
     obtain ⟨ma,mn,mc,rfl⟩:=own_slice6 q6
     have cX4:u3.cell? ⟨(w.heap.size+1+1),0,none⟩=some (.slice va sti.1.length vc):=by simpa using pX.cell 0
     have fX4:=pX.frozen 0
     have gX4:=grown_cell u3 (w.heap.size+1+1) 0 (.slice ma mn mc)
     have pX4:Blk (u3.setCell ⟨(w.heap.size+1+1),0,none⟩ (.slice ma mn mc)) (w.heap.size+1+1) 70 [.slice ma mn mc,.int .i64 (sti.2.1:Int),.int .i64 (sti.2.2:Int)]:=pX.set 0 (.slice ma mn mc)
     have hGX:G≠(w.heap.size+1+1):=blk_ne pG pX (by decide)
     replace pP:=pP.kept gX4 (by simp only [ne_eq,Option.some.injEq];omega)
     replace pS:=pS.kept gX4 (by simp only [ne_eq,Option.some.injEq];omega)
     replace pR:=pR.kept gX4 (by simp only [ne_eq,Option.some.injEq];omega)
     replace pG:=pG.kept gX4 (by simp;omega)
     replace q6:=q6.kept gX4 (.inr (own_ne_blk9 q6 pX (by decide)))
     replace ls:OwnI (u3.setCell ⟨(w.heap.size+1+1),0,none⟩ (.slice ma mn mc)) w.heap.size (some ⟨lb,lo,none⟩,en,ec) (enabM rows m 3):=World.ownsRow.kept ls gX4 (.inr (own_ne_blk9 ls pX (by decide)))
     replace zr:=zr.kept gX4 (.inr (own_ne_blk9 zr pX (by decide)))
     replace hO2:=hO2.neE9 gX4 pX
     replace bl:=bl.grown gX4 bl.size (fun q e=>by cases e;omega)
     replace pX:=pX4
     clear pX4 br gX4 hGX
     go_wp2_with fail
     generalize (u3.setCell ⟨(w.heap.size+1+1),0,none⟩ (.slice ma mn mc))=u4 at *
     clear cX4 fX4
     have hdr:Below u4.heap.size u4 u4.drew:=by go_grown
     refine wp_region_held_drew (S:=(fun w'=>w'.rangeAt w.heap.size 0 [.slice a9 3 cap]∧w'.rangeAt G 0 [.slice z0a z0n z0c,.slice z1a z1n z1c,.slice z2a z2n z2c,.slice z3a z3n z3c]∧w'.rangeAt (w.heap.size+1) 0 [.slice t0a t0n t0c,.slice t1a t1n t1c,.slice t2a t2n t2c,.slice t3a t3n t3c]∧w'.rangeAt (w.heap.size+1+1) 0 [.slice ma mn mc,.int .i64 (sti.2.1:Int),.int .i64 (sti.2.2:Int)])) (by kernel_rfl) ⟨blk_range pP,blk_range pG,blk_range pS,blk_range pX⟩ (fun hS0=>?_)
     refine wpAnyH_take (i:=0) (oi:=⟨some 64,_,_,_,_,_⟩) (v:=.agg ([.slice a9 3 cap]).toArray) rfl (by kernel_rfl) (by kernel_rfl) (by kernel_rfl) (fun _ _ _ h=>h) (yieldsIf_load_mid (by rfl) 25 _ rfl w.heap.size 0 rfl [.slice a9 3 cap] _ (fun _ h=>h.1) Tryz.underlying25 rfl (by kernel_rfl)) (by assumption) ?_
     simp only [Act.put,tka,tkb,tkc]
     refine wpAnyH_take (i:=1) (oi:=⟨some 65,_,_,_,_,_⟩) (v:=.agg ([.slice z0a z0n z0c,.slice z1a z1n z1c,.slice z2a z2n z2c,.slice z3a z3n z3c]).toArray) rfl (by kernel_rfl) (by kernel_rfl) (by kernel_rfl) (fun _ _ _ h=>h) (yieldsIf_load_mid (by rfl) 33 _ rfl G 0 rfl [.slice z0a z0n z0c,.slice z1a z1n z1c,.slice z2a z2n z2c,.slice z3a z3n z3c] _ (fun _ h=>h.2.1) Tryz.underlying33 rfl (by kernel_rfl)) (by assumption) ?_
     simp only [Act.put,tka,tkb,tkc]
     refine wpAnyH_take (i:=2) (oi:=⟨some 66,_,_,_,_,_⟩) (v:=.agg ([.slice a9 3 cap]).toArray) rfl (by kernel_rfl) (by kernel_rfl) (by kernel_rfl) (fun _ _ _ h=>h) (yieldsIf_load_mid (by rfl) 25 _ rfl w.heap.size 0 rfl [.slice a9 3 cap] _ (fun _ h=>h.1) Tryz.underlying25 rfl (by kernel_rfl)) (by assumption) ?_
     simp only [Act.put,tka,tkb,tkc]
     refine wpAnyH_take (i:=3) (oi:=⟨some 67,_,_,_,_,_⟩) (v:=.agg ([.slice t0a t0n t0c,.slice t1a t1n t1c,.slice t2a t2n t2c,.slice t3a t3n t3c]).toArray) rfl (by kernel_rfl) (by kernel_rfl) (by kernel_rfl) (fun _ _ _ h=>h) (yieldsIf_load_mid (by rfl) 33 _ rfl (w.heap.size+1) 0 rfl [.slice t0a t0n t0c,.slice t1a t1n t1c,.slice t2a t2n t2c,.slice t3a t3n t3c] _ (fun _ h=>h.2.2.1) Tryz.underlying33 rfl (by kernel_rfl)) (by assumption) ?_
     simp only [Act.put,tka,tkb,tkc]
     refine tkm 4 68 (.slice ya Zi.length yc) ?_
     refine tkm 5 69 (.int .i64 (k:Int)) ?_
     refine wpAnyH_take (i:=7) (oi:=⟨some 71,_,_,_,_,_⟩) (v:=.agg ([.slice ma mn mc,.int .i64 (sti.2.1:Int),.int .i64 (sti.2.2:Int)]).toArray) rfl (by kernel_rfl) (by kernel_rfl) (by kernel_rfl) (fun _ _ _ h=>h) (yieldsIf_load_mid (by rfl) 70 _ rfl (w.heap.size+1+1) 0 rfl [.slice ma mn mc,.int .i64 (sti.2.1:Int),.int .i64 (sti.2.2:Int)] _ (fun _ h=>h.2.2.2) Tryz.underlying70 rfl (by kernel_rfl)) (by assumption) ?_
     simp only [Act.put,tka,tkb,tkc]
     replace pP:=pP.below hdr
     replace pS:=pS.below hdr
     replace pX:=pX.below hdr
     replace pR:=pR.below hdr
     replace pG:=pG.below hdr
     replace q6:=owns_below q6 hdr
     replace ls:OwnI _ w.heap.size (some ⟨lb,lo,none⟩,en,ec) (enabM rows m 3):=OwnI.below ls hdr
     replace zr:=owns_below zr hdr
     replace hO2:=hO2.below hdr
     replace bl:=bel_trans bl hdr
     clear hdr hS0
     generalize u4.drew=D0 at *
     refine wpAnyH_ready (rs:=[6,12]) (by kernel_rfl) (by simp) ?_
     refine AllReadyH.cons (o:=⟨some 70,_,_,_,_,_⟩) rfl (fun K hK=>?_) (AllReadyH.cons (o:=⟨some 15,_,_,_,_,_⟩) rfl (fun K hK=>?_) AllReadyH.nil)
     ·have kAx:=kA D0 bl (OwnI.ints (s:=(ya,Zi.length,yc)) zr)
      go_simp
      refine kAx.mono ?_
      rintro e D1 ⟨⟨uv,rfl,huv,qU⟩,hb⟩
      replace pP:=pP.below hb
      replace pS:=pS.below hb
      replace pX:=pX.below hb
      replace pR:=pR.below hb
      replace pG:=pG.below hb
      replace q6:=owns_below q6 hb
      replace ls:OwnI _ w.heap.size (some ⟨lb,lo,none⟩,en,ec) (enabM rows m 3):=OwnI.below ls hb
      replace zr:=owns_below zr hb
      replace hO2:=hO2.below hb
      replace bl:=bel_trans bl hb
      clear kAx kA
      go_wp2_with fail
      refine hK.out _ _ ⟨blk_range pP,blk_range pG,blk_range pS,blk_range pX⟩ (fun hS1=>?_)
      clear hK hb
      try simp only [Act.put,tka,tkb,tkc]
      refine wpAnyH_ready (rs:=[8,12]) (by kernel_rfl) (by simp) ?_
      refine AllReadyH.cons (o:=⟨some 72,_,_,_,_,_⟩) rfl (fun K hK=>?_) (AllReadyH.cons (o:=⟨some 15,_,_,_,_,_⟩) rfl (fun K hK=>?_) AllReadyH.nil)
      ·have kVx:=kV D1 ((z0a,z0n,z0c),(z1a,z1n,z1c),(z2a,z2n,z2c),(z3a,z3n,z3c)) uv B _ (.slice ma mn mc) (hR.below bl) (hO2.mem fzz) huv qU q6 (by have:=bl.size;omega)
       rw [uz] at kVx
       go_simp
       refine kVx.mono ?_
       rintro e D2 ⟨⟨rv,rfl,qr⟩,hb⟩
       replace pP:=pP.below hb
       replace pS:=pS.below hb
       replace pX:=pX.below hb
       replace pR:=pR.below hb
       replace pG:=pG.below hb
       replace q6:=owns_below q6 hb
       replace ls:OwnI _ w.heap.size (some ⟨lb,lo,none⟩,en,ec) (enabM rows m 3):=OwnI.below ls hb
       replace zr:=owns_below zr hb
       replace hO2:=hO2.below hb
       replace bl:=bel_trans bl hb
       clear kVx kV qU huv
       obtain ⟨ra,rn9,rc,rfl⟩:=own_slice6 qr
       go_wp2_with fail
       refine hK.out _ _ ⟨blk_range pP,blk_range pG,blk_range pS,blk_range pX⟩ (fun hS2=>?_)
       clear hK hb
       try simp only [Act.put,tka,tkb,tkc]
       refine tkm 9 63 (.tuple #[.agg #[.slice ra rn9 rc,.int .i64 (rr1:Int),.int .i64 (rr2:Int)],.bool rok]) ?_
       refine tkm 10 73 (.agg #[.slice ra rn9 rc,.int .i64 (rr1:Int),.int .i64 (rr2:Int)]) ?_
       refine tkm 11 74 (.bool rok) ?_
       refine tkr 12 15 (fun K hK=>?_)
       have hb:Below D2.heap.size D2 (D2.alloc (.cells #[.slice none 0 0,.int .i64 0,.int .i64 0] 70)):=by go_grown
       have pY:Blk (D2.alloc (.cells #[.slice none 0 0,.int .i64 0,.int .i64 0] 70)) D2.heap.size 70 [.slice none 0 0,.int .i64 0,.int .i64 0]:=blkAt _ _ _ rfl
       have hYb:w.heap.size≤D2.heap.size:=bl.size
       have hYX:(w.heap.size+1+1+1)<D2.heap.size:=pR.lt
       replace pP:=pP.below hb
       replace pS:=pS.below hb
       replace pX:=pX.below hb
       replace pR:=pR.below hb
       replace pG:=pG.below hb
       replace q6:=owns_below q6 hb
       replace ls:OwnI _ w.heap.size (some ⟨lb,lo,none⟩,en,ec) (enabM rows m 3):=OwnI.below ls hb
       replace zr:=owns_below zr hb
       replace hO2:=hO2.below hb
       replace bl:=bel_trans bl hb
       replace qr:=owns_below qr hb
       go_simp
       refine hK.out _ _ ⟨blk_range pP,blk_range pG,blk_range pS,blk_range pX⟩ (fun hS3=>?_)
       clear hK hb
       generalize (D2.alloc (.cells #[.slice none 0 0,.int .i64 0,.int .i64 0] 70))=D3 at *
       obtain ⟨Y,hY⟩:∃ Y,Y=D2.heap.size:=⟨_,rfl⟩
       rw [← hY] at pY hYb hYX ⊢
       clear hY
       try simp only [Act.put,tka,tkb,tkc]
       refine tkz 13 (fun K hK=>?_)
       refine step_store_blkD rfl 70 _ _ rfl Y [.slice ra rn9 rc,.int .i64 (rr1:Int),.int .i64 (rr2:Int)] rfl rfl pY (by kernel_rfl) rfl rfl ?_
       intro V9 pY9 g9
       have pY2:=pY9.out
       replace pP:=pP.kept g9 (by simp;omega)
       replace pS:=pS.kept g9 (by simp;omega)
       replace pX:=pX.kept g9 (by simp;omega)
       replace pR:=pR.kept g9 (by simp;omega)
       replace pG:=pG.kept g9 (by simp;exact (blk_ne pG pY (by decide)).symm)
       replace qr:=qr.kept g9 (.inr (own_ne_blk9 qr pY (by decide)))
       replace ls:OwnI V9 w.heap.size (some ⟨lb,lo,none⟩,en,ec) (enabM rows m 3):=World.ownsRow.kept ls g9 (.inr (own_ne_blk9 ls pY (by decide)))
       replace zr:=zr.kept g9 (.inr (own_ne_blk9 zr pY (by decide)))
       replace bl:=bl.grown g9 bl.size (fun q e=>by cases e;exact hYb)
       refine hK.out _ _ ⟨blk_range pP,blk_range pG,blk_range pS,blk_range pX⟩ (fun hS4=>?_)
       clear hK
       try simp only [Act.put,tka,tkb,tkc]
       refine tkm 14 16 (.bool rok) ?_
       refine wpAnyH_done (by kernel_rfl) ?_ _
       clear hO2 q6 pG pY pY9 g9 uz fzz hS1 hS2 hS3 hS4
       go_wp2_with (first | refine wpList_load_blk rfl 70 _ rfl Y rfl pY2 _ Tryz.underlying70 rfl (by kernel_rfl) ?_ | refine wpList_store_blk rfl 70 _ _ rfl (w.heap.size+1+1) [.slice ra rn9 rc,.int .i64 (rr1:Int),.int .i64 (rr2:Int)] rfl rfl pX (by kernel_rfl) rfl rfl ?_)
       intro E1 pX5 g5
       have pX6:=pX5.out
       replace pP:=pP.kept g5 (by simp only [ne_eq,Option.some.injEq];omega)
       replace pS:=pS.kept g5 (by simp only [ne_eq,Option.some.injEq];omega)
       replace pR:=pR.kept g5 (by simp only [ne_eq,Option.some.injEq];omega)
       replace qr:=qr.kept g5 (.inr (own_ne_blk9 qr pX (by decide)))
       replace ls:OwnI E1 w.heap.size (some ⟨lb,lo,none⟩,en,ec) (enabM rows m 3):=World.ownsRow.kept ls g5 (.inr (own_ne_blk9 ls pX (by decide)))
       replace zr:=zr.kept g5 (.inr (own_ne_blk9 zr pX (by decide)))
       replace bl:=bl.grown g5 bl.size (fun q e=>by cases e;omega)
       clear pX pX5 g5 pY2 hYb hYX
       cases rok with
       | false =>
        have HR3:Hid (R=((rb,rr1,rr2),false)):=HEQ.out
        clear HEQ HOK HLF
        go_wp2_with (first | refine wpList_load_blk rfl 70 _ rfl (w.heap.size+1+1) rfl pX6 _ Tryz.underlying70 rfl (by kernel_rfl) ?_ | refine wpList_store_blk rfl 70 _ _ rfl (w.heap.size+1+1+1) [.slice ra rn9 rc,.int .i64 (rr1:Int),.int .i64 (rr2:Int)] rfl rfl pR (by kernel_rfl) rfl rfl ?_)
        intro E2 pR2 g2
        have b2:=bl.grown g2 bl.size (fun q e=>by cases e;omega)
        have q2:=qr.kept g2 (.inr (own_ne_blk9 qr pR (by decide)))
        go_wp2_with fail
        refine bodyPost_ret (results_blk2 Tryz.results153 _ _ _ _ _ _ rfl pR2.out Tryz.underlying70 rfl (by kernel_rfl)) rfl ?_
        refine ⟨?_,b2⟩
        rw [HR3.out]
        exact ⟨.slice ra rn9 rc,rfl,q2⟩
       | true =>
        have hzb:=bl.size
        go_wp2_with (at_builtin;refine wpList_append_own_at _ rfl _ _ 27 rfl w.heap.size 3 i1 (.int .i64 0) 1 8 Tryz.underlying27 hi1 hy0 hy1 hy2 rfl (by decide) _ _ _ rfl (zr.alloc _) ⟨E1.heap.size,0,none⟩ 1 1 [.int .i64 (k:Int)] rfl rfl (cell_one_new _ _ _) (by simp [Value.oneCell']) ?c3 ?c4 ?c5 ?_)
        case c3=>unfold maxLen;omega
        case c4=>omega
        case c5=>first | (simp;omega) | omega
        intro sv7 E3 q7 gr7 _ at7
        have ha7:Below E1.heap.size E1 (E1.alloc (.cells #[.int .i64 (k:Int)] 3)):=by go_grown
        have zr7:=owns_below zr ha7
        have qr7:=owns_below qr ha7
        have st9:OnS7 rows w E3 a9 cap f B ((t0a,t0n,t0c),(t1a,t1n,t1c),(t2a,t2n,t2c),(t3a,t3n,t3c)) m (.slice ra rn9 rc) sv7 (some ⟨lb,lo,none⟩,en,ec) R (i+1) (Zi++[(k:Int)]) (rb,rr1,rr2):=by
         obtain ⟨s1,s2,s3,s4⟩:=HLF.out
         simp only at s1 s2 s3 s4
         refine ⟨HEQ.out.symm,HOK.out,by rw [List.length_append];simp only [List.length_cons,List.length_nil];omega,(by first | exact s4 rfl | exact s4 trivial),s1,s2,s3,(pP.below ha7).kept gr7 (own_ne_blk9 zr7 (pP.below ha7) (by decide)),(pS.below ha7).kept gr7 (own_ne_blk9 zr7 (pS.below ha7) (by decide)),(pX6.below ha7).kept gr7 (own_ne_blk9 zr7 (pX6.below ha7) (by decide)),(pR.below ha7).kept gr7 (own_ne_blk9 zr7 (pR.below ha7) (by decide)),qr7.kept gr7 (Ap3.types qr7 zr7 (by decide)).or,World.ownsRow.kept (OwnI.below ls ha7) gr7 az.or,?_,?_,(bel_trans bl ha7).grown gr7 (bel_trans bl ha7).size (fun q hq=>(own_lt3 zr7 hq).1)⟩
         ·rw [List.length_append,List.map_append]
          exact q7
         ·exact Ap3.moved (OwnI.below ls ha7) az (by rw [World.size_alloc];exact at7)
        obtain ⟨sa7,sn7,sc7,rfl⟩:=own_slice6 q7
        clear HLF HEQ HOK q7 gr7 at7 ha7 zr7 qr7 pP pS pX6 pR qr ls zr az bl
        go_wp2
        go_roundw
        case rel=>exact ⟨i+1,_,(rb,rr1,rr2),_,by go_num,by omega,st9⟩
        case measure=>simp [intOf];omega
      ·have hb:Below D1.heap.size D1 (D1.alloc (.cells #[.slice none 0 0,.int .i64 0,.int .i64 0] 70)):=by go_grown
       have pY:Blk (D1.alloc (.cells #[.slice none 0 0,.int .i64 0,.int .i64 0] 70)) D1.heap.size 70 [.slice none 0 0,.int .i64 0,.int .i64 0]:=blkAt _ _ _ rfl
       have hYb:w.heap.size≤D1.heap.size:=bl.size
       have hYX:(w.heap.size+1+1+1)<D1.heap.size:=pR.lt
       replace pP:=pP.below hb
       replace pS:=pS.below hb
       replace pX:=pX.below hb
       replace pR:=pR.below hb
       replace pG:=pG.below hb
       replace q6:=owns_below q6 hb
       replace ls:OwnI _ w.heap.size (some ⟨lb,lo,none⟩,en,ec) (enabM rows m 3):=OwnI.below ls hb
       replace zr:=owns_below zr hb
       replace hO2:=hO2.below hb
       replace bl:=bel_trans bl hb
       replace qU:=owns_below qU hb
       go_simp
       refine hK.out _ _ ⟨blk_range pP,blk_range pG,blk_range pS,blk_range pX⟩ (fun hS3=>?_)
       clear hK hb
       generalize (D1.alloc (.cells #[.slice none 0 0,.int .i64 0,.int .i64 0] 70))=D2 at *
       obtain ⟨Y,hY⟩:∃ Y,Y=D1.heap.size:=⟨_,rfl⟩
       rw [← hY] at pY hYb hYX ⊢
       clear hY
       try simp only [Act.put,tka,tkb,tkc]
       refine tkr 8 72 (fun K hK=>?_)
       have kVx:=kV D2 ((z0a,z0n,z0c),(z1a,z1n,z1c),(z2a,z2n,z2c),(z3a,z3n,z3c)) uv B _ (.slice ma mn mc) (hR.below bl) (hO2.mem fzz) huv qU q6 (by have:=bl.size;omega)
       rw [uz] at kVx
       go_simp
       refine kVx.mono ?_
       rintro e D3 ⟨⟨rv,rfl,qr⟩,hb⟩
       replace pP:=pP.below hb
       replace pS:=pS.below hb
       replace pX:=pX.below hb
       replace pR:=pR.below hb
       replace pG:=pG.below hb
       replace q6:=owns_below q6 hb
       replace ls:OwnI _ w.heap.size (some ⟨lb,lo,none⟩,en,ec) (enabM rows m 3):=OwnI.below ls hb
       replace zr:=owns_below zr hb
       replace hO2:=hO2.below hb
       replace bl:=bel_trans bl hb
       replace pY:=pY.below hb
       clear kVx kV qU huv
       obtain ⟨ra,rn9,rc,rfl⟩:=own_slice6 qr
       go_wp2_with fail
       refine hK.out _ _ ⟨blk_range pP,blk_range pG,blk_range pS,blk_range pX⟩ (fun hS2=>?_)
       clear hK hb
       try simp only [Act.put,tka,tkb,tkc]
       refine tkm 9 63 (.tuple #[.agg #[.slice ra rn9 rc,.int .i64 (rr1:Int),.int .i64 (rr2:Int)],.bool rok]) ?_
       refine tkm 10 73 (.agg #[.slice ra rn9 rc,.int .i64 (rr1:Int),.int .i64 (rr2:Int)]) ?_
       refine tkm 11 74 (.bool rok) ?_
       refine tkz 13 (fun K hK=>?_)
       refine step_store_blkD rfl 70 _ _ rfl Y [.slice ra rn9 rc,.int .i64 (rr1:Int),.int .i64 (rr2:Int)] rfl rfl pY (by kernel_rfl) rfl rfl ?_
       intro V9 pY9 g9
       have pY2:=pY9.out
       replace pP:=pP.kept g9 (by simp;omega)
       replace pS:=pS.kept g9 (by simp;omega)
       replace pX:=pX.kept g9 (by simp;omega)
       replace pR:=pR.kept g9 (by simp;omega)
       replace pG:=pG.kept g9 (by simp;exact (blk_ne pG pY (by decide)).symm)
       replace qr:=qr.kept g9 (.inr (own_ne_blk9 qr pY (by decide)))
       replace ls:OwnI V9 w.heap.size (some ⟨lb,lo,none⟩,en,ec) (enabM rows m 3):=World.ownsRow.kept ls g9 (.inr (own_ne_blk9 ls pY (by decide)))
       replace zr:=zr.kept g9 (.inr (own_ne_blk9 zr pY (by decide)))
       replace bl:=bl.grown g9 bl.size (fun q e=>by cases e;exact hYb)
       refine hK.out _ _ ⟨blk_range pP,blk_range pG,blk_range pS,blk_range pX⟩ (fun hS4=>?_)
       clear hK
       try simp only [Act.put,tka,tkb,tkc]
       refine tkm 14 16 (.bool rok) ?_
       refine wpAnyH_done (by kernel_rfl) ?_ _
       clear hO2 q6 pG pY pY9 g9 uz fzz hS1 hS2 hS3 hS4
       go_wp2_with (first | refine wpList_load_blk rfl 70 _ rfl Y rfl pY2 _ Tryz.underlying70 rfl (by kernel_rfl) ?_ | refine wpList_store_blk rfl 70 _ _ rfl (w.heap.size+1+1) [.slice ra rn9 rc,.int .i64 (rr1:Int),.int .i64 (rr2:Int)] rfl rfl pX (by kernel_rfl) rfl rfl ?_)
       intro E1 pX5 g5
       have pX6:=pX5.out
       replace pP:=pP.kept g5 (by simp only [ne_eq,Option.some.injEq];omega)
       replace pS:=pS.kept g5 (by simp only [ne_eq,Option.some.injEq];omega)
       replace pR:=pR.kept g5 (by simp only [ne_eq,Option.some.injEq];omega)
       replace qr:=qr.kept g5 (.inr (own_ne_blk9 qr pX (by decide)))
       replace ls:OwnI E1 w.heap.size (some ⟨lb,lo,none⟩,en,ec) (enabM rows m 3):=World.ownsRow.kept ls g5 (.inr (own_ne_blk9 ls pX (by decide)))
       replace zr:=zr.kept g5 (.inr (own_ne_blk9 zr pX (by decide)))
       replace bl:=bl.grown g5 bl.size (fun q e=>by cases e;omega)
       clear pX pX5 g5 pY2 hYb hYX
       cases rok with
       | false =>
        have HR3:Hid (R=((rb,rr1,rr2),false)):=HEQ.out
        clear HEQ HOK HLF
        go_wp2_with (first | refine wpList_load_blk rfl 70 _ rfl (w.heap.size+1+1) rfl pX6 _ Tryz.underlying70 rfl (by kernel_rfl) ?_ | refine wpList_store_blk rfl 70 _ _ rfl (w.heap.size+1+1+1) [.slice ra rn9 rc,.int .i64 (rr1:Int),.int .i64 (rr2:Int)] rfl rfl pR (by kernel_rfl) rfl rfl ?_)
        intro E2 pR2 g2
        have b2:=bl.grown g2 bl.size (fun q e=>by cases e;omega)
        have q2:=qr.kept g2 (.inr (own_ne_blk9 qr pR (by decide)))
        go_wp2_with fail
        refine bodyPost_ret (results_blk2 Tryz.results153 _ _ _ _ _ _ rfl pR2.out Tryz.underlying70 rfl (by kernel_rfl)) rfl ?_
        refine ⟨?_,b2⟩
        rw [HR3.out]
        exact ⟨.slice ra rn9 rc,rfl,q2⟩
       | true =>
        have hzb:=bl.size
        go_wp2_with (at_builtin;refine wpList_append_own_at _ rfl _ _ 27 rfl w.heap.size 3 i1 (.int .i64 0) 1 8 Tryz.underlying27 hi1 hy0 hy1 hy2 rfl (by decide) _ _ _ rfl (zr.alloc _) ⟨E1.heap.size,0,none⟩ 1 1 [.int .i64 (k:Int)] rfl rfl (cell_one_new _ _ _) (by simp [Value.oneCell']) ?c3 ?c4 ?c5 ?_)
        case c3=>unfold maxLen;omega
        case c4=>omega
        case c5=>first | (simp;omega) | omega
        intro sv7 E3 q7 gr7 _ at7
        have ha7:Below E1.heap.size E1 (E1.alloc (.cells #[.int .i64 (k:Int)] 3)):=by go_grown
        have zr7:=owns_below zr ha7
        have qr7:=owns_below qr ha7
        have st9:OnS7 rows w E3 a9 cap f B ((t0a,t0n,t0c),(t1a,t1n,t1c),(t2a,t2n,t2c),(t3a,t3n,t3c)) m (.slice ra rn9 rc) sv7 (some ⟨lb,lo,none⟩,en,ec) R (i+1) (Zi++[(k:Int)]) (rb,rr1,rr2):=by
         obtain ⟨s1,s2,s3,s4⟩:=HLF.out
         simp only at s1 s2 s3 s4
         refine ⟨HEQ.out.symm,HOK.out,by rw [List.length_append];simp only [List.length_cons,List.length_nil];omega,(by first | exact s4 rfl | exact s4 trivial),s1,s2,s3,(pP.below ha7).kept gr7 (own_ne_blk9 zr7 (pP.below ha7) (by decide)),(pS.below ha7).kept gr7 (own_ne_blk9 zr7 (pS.below ha7) (by decide)),(pX6.below ha7).kept gr7 (own_ne_blk9 zr7 (pX6.below ha7) (by decide)),(pR.below ha7).kept gr7 (own_ne_blk9 zr7 (pR.below ha7) (by decide)),qr7.kept gr7 (Ap3.types qr7 zr7 (by decide)).or,World.ownsRow.kept (OwnI.below ls ha7) gr7 az.or,?_,?_,(bel_trans bl ha7).grown gr7 (bel_trans bl ha7).size (fun q hq=>(own_lt3 zr7 hq).1)⟩
         ·rw [List.length_append,List.map_append]
          exact q7
         ·exact Ap3.moved (OwnI.below ls ha7) az (by rw [World.size_alloc];exact at7)
        obtain ⟨sa7,sn7,sc7,rfl⟩:=own_slice6 q7
        clear HLF HEQ HOK q7 gr7 at7 ha7 zr7 qr7 pP pS pX6 pR qr ls zr az bl
        go_wp2
        go_roundw
        case rel=>exact ⟨i+1,_,(rb,rr1,rr2),_,by go_num,by omega,st9⟩
        case measure=>simp [intOf];omega
     ·have hb:Below D0.heap.size D0 (D0.alloc (.cells #[.slice none 0 0,.int .i64 0,.int .i64 0] 70)):=by go_grown
      have pY:Blk (D0.alloc (.cells #[.slice none 0 0,.int .i64 0,.int .i64 0] 70)) D0.heap.size 70 [.slice none 0 0,.int .i64 0,.int .i64 0]:=blkAt _ _ _ rfl
      have hYb:w.heap.size≤D0.heap.size:=bl.size
      have hYX:(w.heap.size+1+1+1)<D0.heap.size:=pR.lt
      replace pP:=pP.below hb
      replace pS:=pS.below hb
      replace pX:=pX.below hb
      replace pR:=pR.below hb
      replace pG:=pG.below hb
      replace q6:=owns_below q6 hb
      replace ls:OwnI _ w.heap.size (some ⟨lb,lo,none⟩,en,ec) (enabM rows m 3):=OwnI.below ls hb
      replace zr:=owns_below zr hb
      replace hO2:=hO2.below hb
      replace bl:=bel_trans bl hb
      go_simp
      refine hK.out _ _ ⟨blk_range pP,blk_range pG,blk_range pS,blk_range pX⟩ (fun hS3=>?_)
      clear hK hb
      generalize (D0.alloc (.cells #[.slice none 0 0,.int .i64 0,.int .i64 0] 70))=D1 at *
      obtain ⟨Y,hY⟩:∃ Y,Y=D0.heap.size:=⟨_,rfl⟩
      rw [← hY] at pY hYb hYX ⊢
      clear hY
      try simp only [Act.put,tka,tkb,tkc]
      refine tkr 6 70 (fun K hK=>?_)
      have kAx:=kA D1 bl (OwnI.ints (s:=(ya,Zi.length,yc)) zr)
      go_simp
      refine kAx.mono ?_
      rintro e D2 ⟨⟨uv,rfl,huv,qU⟩,hb⟩
      replace pP:=pP.below hb
      replace pS:=pS.below hb
      replace pX:=pX.below hb
      replace pR:=pR.below hb
      replace pG:=pG.below hb
      replace q6:=owns_below q6 hb
      replace ls:OwnI _ w.heap.size (some ⟨lb,lo,none⟩,en,ec) (enabM rows m 3):=OwnI.below ls hb
      replace zr:=owns_below zr hb
      replace hO2:=hO2.below hb
      replace bl:=bel_trans bl hb
      replace pY:=pY.below hb
      clear kAx kA
      go_wp2_with fail
      refine hK.out _ _ ⟨blk_range pP,blk_range pG,blk_range pS,blk_range pX⟩ (fun hS1=>?_)
      clear hK hb
      try simp only [Act.put,tka,tkb,tkc]
      refine tkr 8 72 (fun K hK=>?_)
      have kVx:=kV D2 ((z0a,z0n,z0c),(z1a,z1n,z1c),(z2a,z2n,z2c),(z3a,z3n,z3c)) uv B _ (.slice ma mn mc) (hR.below bl) (hO2.mem fzz) huv qU q6 (by have:=bl.size;omega)
      rw [uz] at kVx
      go_simp
      refine kVx.mono ?_
      rintro e D3 ⟨⟨rv,rfl,qr⟩,hb⟩
      replace pP:=pP.below hb
      replace pS:=pS.below hb
      replace pX:=pX.below hb
      replace pR:=pR.below hb
      replace pG:=pG.below hb
      replace q6:=owns_below q6 hb
      replace ls:OwnI _ w.heap.size (some ⟨lb,lo,none⟩,en,ec) (enabM rows m 3):=OwnI.below ls hb
      replace zr:=owns_below zr hb
      replace hO2:=hO2.below hb
      replace bl:=bel_trans bl hb
      replace pY:=pY.below hb
      clear kVx kV qU huv
      obtain ⟨ra,rn9,rc,rfl⟩:=own_slice6 qr
      go_wp2_with fail
      refine hK.out _ _ ⟨blk_range pP,blk_range pG,blk_range pS,blk_range pX⟩ (fun hS2=>?_)
      clear hK hb
      try simp only [Act.put,tka,tkb,tkc]
      refine tkm 9 63 (.tuple #[.agg #[.slice ra rn9 rc,.int .i64 (rr1:Int),.int .i64 (rr2:Int)],.bool rok]) ?_
      refine tkm 10 73 (.agg #[.slice ra rn9 rc,.int .i64 (rr1:Int),.int .i64 (rr2:Int)]) ?_
      refine tkm 11 74 (.bool rok) ?_
      refine tkz 13 (fun K hK=>?_)
      refine step_store_blkD rfl 70 _ _ rfl Y [.slice ra rn9 rc,.int .i64 (rr1:Int),.int .i64 (rr2:Int)] rfl rfl pY (by kernel_rfl) rfl rfl ?_
      intro V9 pY9 g9
      have pY2:=pY9.out
      replace pP:=pP.kept g9 (by simp;omega)
      replace pS:=pS.kept g9 (by simp;omega)
      replace pX:=pX.kept g9 (by simp;omega)
      replace pR:=pR.kept g9 (by simp;omega)
      replace pG:=pG.kept g9 (by simp;exact (blk_ne pG pY (by decide)).symm)
      replace qr:=qr.kept g9 (.inr (own_ne_blk9 qr pY (by decide)))
      replace ls:OwnI V9 w.heap.size (some ⟨lb,lo,none⟩,en,ec) (enabM rows m 3):=World.ownsRow.kept ls g9 (.inr (own_ne_blk9 ls pY (by decide)))
      replace zr:=zr.kept g9 (.inr (own_ne_blk9 zr pY (by decide)))
      replace bl:=bl.grown g9 bl.size (fun q e=>by cases e;exact hYb)
      refine hK.out _ _ ⟨blk_range pP,blk_range pG,blk_range pS,blk_range pX⟩ (fun hS4=>?_)
      clear hK
      try simp only [Act.put,tka,tkb,tkc]
      refine tkm 14 16 (.bool rok) ?_
      refine wpAnyH_done (by kernel_rfl) ?_ _
      clear hO2 q6 pG pY pY9 g9 uz fzz hS1 hS2 hS3 hS4
      go_wp2_with (first | refine wpList_load_blk rfl 70 _ rfl Y rfl pY2 _ Tryz.underlying70 rfl (by kernel_rfl) ?_ | refine wpList_store_blk rfl 70 _ _ rfl (w.heap.size+1+1) [.slice ra rn9 rc,.int .i64 (rr1:Int),.int .i64 (rr2:Int)] rfl rfl pX (by kernel_rfl) rfl rfl ?_)
      intro E1 pX5 g5
      have pX6:=pX5.out
      replace pP:=pP.kept g5 (by simp only [ne_eq,Option.some.injEq];omega)
      replace pS:=pS.kept g5 (by simp only [ne_eq,Option.some.injEq];omega)
      replace pR:=pR.kept g5 (by simp only [ne_eq,Option.some.injEq];omega)
      replace qr:=qr.kept g5 (.inr (own_ne_blk9 qr pX (by decide)))
      replace ls:OwnI E1 w.heap.size (some ⟨lb,lo,none⟩,en,ec) (enabM rows m 3):=World.ownsRow.kept ls g5 (.inr (own_ne_blk9 ls pX (by decide)))
      replace zr:=zr.kept g5 (.inr (own_ne_blk9 zr pX (by decide)))
      replace bl:=bl.grown g5 bl.size (fun q e=>by cases e;omega)
      clear pX pX5 g5 pY2 hYb hYX
      cases rok with
      | false =>
       have HR3:Hid (R=((rb,rr1,rr2),false)):=HEQ.out
       clear HEQ HOK HLF
       go_wp2_with (first | refine wpList_load_blk rfl 70 _ rfl (w.heap.size+1+1) rfl pX6 _ Tryz.underlying70 rfl (by kernel_rfl) ?_ | refine wpList_store_blk rfl 70 _ _ rfl (w.heap.size+1+1+1) [.slice ra rn9 rc,.int .i64 (rr1:Int),.int .i64 (rr2:Int)] rfl rfl pR (by kernel_rfl) rfl rfl ?_)
       intro E2 pR2 g2
       have b2:=bl.grown g2 bl.size (fun q e=>by cases e;omega)
       have q2:=qr.kept g2 (.inr (own_ne_blk9 qr pR (by decide)))
       go_wp2_with fail
       refine bodyPost_ret (results_blk2 Tryz.results153 _ _ _ _ _ _ rfl pR2.out Tryz.underlying70 rfl (by kernel_rfl)) rfl ?_
       refine ⟨?_,b2⟩
       rw [HR3.out]
       exact ⟨.slice ra rn9 rc,rfl,q2⟩
      | true =>
       have hzb:=bl.size
       go_wp2_with (at_builtin;refine wpList_append_own_at _ rfl _ _ 27 rfl w.heap.size 3 i1 (.int .i64 0) 1 8 Tryz.underlying27 hi1 hy0 hy1 hy2 rfl (by decide) _ _ _ rfl (zr.alloc _) ⟨E1.heap.size,0,none⟩ 1 1 [.int .i64 (k:Int)] rfl rfl (cell_one_new _ _ _) (by simp [Value.oneCell']) ?c3 ?c4 ?c5 ?_)
       case c3=>unfold maxLen;omega
       case c4=>omega
       case c5=>first | (simp;omega) | omega
       intro sv7 E3 q7 gr7 _ at7
       have ha7:Below E1.heap.size E1 (E1.alloc (.cells #[.int .i64 (k:Int)] 3)):=by go_grown
       have zr7:=owns_below zr ha7
       have qr7:=owns_below qr ha7
       have st9:OnS7 rows w E3 a9 cap f B ((t0a,t0n,t0c),(t1a,t1n,t1c),(t2a,t2n,t2c),(t3a,t3n,t3c)) m (.slice ra rn9 rc) sv7 (some ⟨lb,lo,none⟩,en,ec) R (i+1) (Zi++[(k:Int)]) (rb,rr1,rr2):=by
        obtain ⟨s1,s2,s3,s4⟩:=HLF.out
        simp only at s1 s2 s3 s4
        refine ⟨HEQ.out.symm,HOK.out,by rw [List.length_append];simp only [List.length_cons,List.length_nil];omega,(by first | exact s4 rfl | exact s4 trivial),s1,s2,s3,(pP.below ha7).kept gr7 (own_ne_blk9 zr7 (pP.below ha7) (by decide)),(pS.below ha7).kept gr7 (own_ne_blk9 zr7 (pS.below ha7) (by decide)),(pX6.below ha7).kept gr7 (own_ne_blk9 zr7 (pX6.below ha7) (by decide)),(pR.below ha7).kept gr7 (own_ne_blk9 zr7 (pR.below ha7) (by decide)),qr7.kept gr7 (Ap3.types qr7 zr7 (by decide)).or,World.ownsRow.kept (OwnI.below ls ha7) gr7 az.or,?_,?_,(bel_trans bl ha7).grown gr7 (bel_trans bl ha7).size (fun q hq=>(own_lt3 zr7 hq).1)⟩
        ·rw [List.length_append,List.map_append]
         exact q7
        ·exact Ap3.moved (OwnI.below ls ha7) az (by rw [World.size_alloc];exact at7)
       obtain ⟨sa7,sn7,sc7,rfl⟩:=own_slice6 q7
       clear HLF HEQ HOK q7 gr7 at7 ha7 zr7 qr7 pP pS pX6 pR qr ls zr az bl
       go_wp2
       go_roundw
       case rel=>exact ⟨i+1,_,(rb,rr1,rr2),_,by go_num,by omega,st9⟩
       case measure=>simp [intOf];omega
   ·have hnl:¬ ((i:Int)<(en:Int)):=by omega
    have HR3:Hid (R=(sti,true)):=by
     have h9:=hO.eq
     rw [List.drop_of_length_le (by omega)] at h9
     unfold schL at h9
     exact h9.symm
    have pX:=hO.bx
    have pR:=hO.rx
    have br:=hO.br
    have bl:=hO.bl
    clear hO hIv hGv
    go_wp2_with (first | refine wpList_load_blk rfl 70 _ rfl (w.heap.size+1+1) rfl pX _ Tryz.underlying70 rfl (by kernel_rfl) ?_ | refine wpList_store_blk rfl 70 _ _ rfl (w.heap.size+1+1+1) [.slice va sti.1.length vc,.int .i64 (sti.2.1:Int),.int .i64 (sti.2.2:Int)] rfl rfl pR (by kernel_rfl) rfl rfl ?_)
    intro E2 pR2 g2
    have b2:=bl.grown g2 bl.size (fun q e=>by cases e;omega)
    have q2:=br.kept g2 (.inr (own_ne_blk9 br pR (by decide)))
    go_wp2_with fail
    refine bodyPost_ret (results_blk2 Tryz.results153 _ _ _ _ _ _ rfl pR2.out Tryz.underlying70 rfl (by kernel_rfl)) rfl ?_
    refine ⟨?_,b2⟩
    rw [HR3.out]
    exact ⟨.slice va sti.1.length vc,rfl,q2⟩
theorem search_is {rows:List (List I3)} {cap:Nat} (hp:progOk rows=true):∀ f,SchC rows cap f
 | 0=>fun m Z st h=>absurd h.2.1 (Nat.not_lt_zero _)
 | f+1=>search_step hp (search_is hp f)
end Go.Proofs.YtifoggpohlegmaaGreatDoor
